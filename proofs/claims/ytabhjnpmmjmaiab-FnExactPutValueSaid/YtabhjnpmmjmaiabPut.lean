/- A value that is put: the program's and the model's. Conditions: none beyond those of each theorem. -/
import Derived.Test.YtabhjnpmmjmaiabOwn
import Derived.Test.YtabhjnpmmjmaiabValueAt
import Derived.Test.YtabhjnpmmjmaiabKit2
namespace Go.Proofs.Ytabhjnpmmjmaiab
open Go Ieee Go.RowKit
set_option linter.unusedVariables false

def putB (wd hi : Int) (wb : Bool) (xs ys e x y : List Nat) (u v : Int) (z : Nat) : Bool := fieldB wd hi wb xs ys e x y && (cellB wd hi u v && !(bordB wb wd hi u v && nzB z))
def putE (wd hi : Int) (wb : Bool) (xs ys e x y : List Nat) (u v : Int) (z : Nat) : List (Option Nat) := if putB wd hi wb xs ys e x y u v z then (cl e).set (u + wd * v).toNat (canon .f32 z) else []
def putO (wd hi : Int) (wb : Bool) (xs ys e x y : List Nat) (u v : Int) (z : Nat) (l : List Nat) : List (Option Nat) := if putB wd hi wb xs ys e x y u v z then cl l else []

theorem own_some {w : World} {B g : Nat} {vs : List Value} (h : OwnV w B (some ⟨g, 0, none⟩) vs) : ∃ cs t, B ≤ g ∧ Blk w g cs t ∧ ∀ (i : Nat) (u : Value), vs[i]? = some u → cs[i]? = some u := by
  rcases h with ⟨h, _⟩ | ⟨g', cs, t, h, hb, hc, hv⟩
  · cases h
  · cases h; exact ⟨cs, t, hb, hc, hv⟩

theorem own_put {w : World} {B g : Nat} {vs : List Value} (h : OwnV w B (some ⟨g, 0, none⟩) vs) (j : Nat) (v : Value) (hj : j < vs.length) : OwnV (w.setCell ⟨g, j, none⟩ v) B (some ⟨g, 0, none⟩) (vs.set j v) := by
  obtain ⟨cs, t, hb, hc, hv⟩ := own_some h
  refine .inr ⟨g, cs.setIfInBounds j v, t, rfl, hb, hc.set j v, fun i u hu => ?_⟩
  have hsz : j < cs.size := (Array.getElem?_eq_some_iff.1 (hv j _ (List.getElem?_eq_getElem hj))).1
  rw [List.getElem?_set] at hu
  rw [Array.getElem?_setIfInBounds]
  by_cases e : j = i
  · subst e
    rw [if_pos rfl] at hu ⊢
    rw [if_pos hj] at hu
    rw [if_pos hsz]; exact hu
  · rw [if_neg e] at hu ⊢
    exact hv i u hu

theorem fvals_set (xs : List Nat) (j z : Nat) : (fvals xs).set j (.float .f32 z) = fvals (xs.set j z) := by unfold fvals; rw [List.map_set]

theorem is_set {xs : List Nat} (h : ∀ x ∈ xs, x < 2 ^ 32) (n : xs.length ≤ 256) (j z : Nat) (hz : z < 2 ^ 32) : Is (xs.set j z) ((cl xs).set j (canon .f32 z)) :=
  ⟨(by unfold cl; rw [List.map_set]), (fun x hx => by
    rcases List.mem_or_eq_of_mem_set hx with h' | h'
    · exact h _ h'
    · rw [h']; exact hz), (by rw [List.length_set]; exact n)⟩

set_option maxHeartbeats 8000000 in
set_option maxRecDepth 100000 in
theorem implPutValueL (wd hi : Int) (wb : Bool) (a b : Option Addr) (ca cb : Nat) (xs ys : List Nat) (a0 a1 a2 : Option Addr) (c0 c1 c2 : Nat) (e x y : List Nat) (u v : Int) (z : Nat) (w : World) (ha : RowV w a (fvals xs)) (hb : RowV w b (fvals ys)) (qa : ∀ z ∈ xs, z < 2 ^ 32) (qb : ∀ z ∈ ys, z < 2 ^ 32) (hx : xs.length ≤ maxLen) (hy : ys.length ≤ maxLen) (h0 : RowV w a0 (fvals e)) (h1 : RowV w a1 (fvals x)) (h2 : RowV w a2 (fvals y)) (q0 : ∀ z ∈ e, z < 2 ^ 32) (q1 : ∀ z ∈ x, z < 2 ^ 32) (q2 : ∀ z ∈ y, z < 2 ^ 32) (m0 : e.length ≤ maxLen) (m1 : x.length ≤ maxLen) (m2 : y.length ≤ maxLen) (wu : (Lit.int .i64 u).wf = true) (wv : (Lit.int .i64 v).wf = true) (wz : z < 2 ^ 32) :
    Calls Try.prog 41 #[.agg #[.int .i64 wd, .int .i64 hi, .bool wb, .slice a xs.length ca, .slice b ys.length cb], .agg #[.slice a0 e.length c0, .slice a1 x.length c1, .slice a2 y.length c2], .int .i64 u, .int .i64 v, .float .f32 z] w fun r w' => ∃ (a0 a1 a2 : Option Addr) (c0 c1 c2 : Nat) (y0 y1 y2 : List Nat), r = .returned (.tuple #[.agg #[.slice a0 y0.length c0, .slice a1 y1.length c1, .slice a2 y2.length c2], .bool (putB wd hi wb xs ys e x y u v z)]) ∧ GotField w.heap.size w w' (putE wd hi wb xs ys e x y u v z) (putO wd hi wb xs ys e x y u v z x) (putO wd hi wb xs ys e x y u v z y) a0 a1 a2 y0 y1 y2 := by
  have hp0 : putB wd hi wb xs ys e x y u v z = (fieldB wd hi wb xs ys e x y && (cellB wd hi u v && !(bordB wb wd hi u v && nzB z))) := rfl
  have HP0 := Lib.hid hp0; clear hp0
  have hm : putB wd hi wb xs ys e x y u v z = false → putE wd hi wb xs ys e x y u v z = [] ∧ putO wd hi wb xs ys e x y u v z x = [] ∧ putO wd hi wb xs ys e x y u v z y = [] := fun h => by unfold putE putO; rw [h]; exact ⟨rfl, rfl, rfl⟩
  have HM := Lib.hid hm; clear hm
  have hk : putB wd hi wb xs ys e x y u v z = true → putE wd hi wb xs ys e x y u v z = (cl e).set (u + wd * v).toNat (canon .f32 z) ∧ putO wd hi wb xs ys e x y u v z x = cl x ∧ putO wd hi wb xs ys e x y u v z y = cl y := fun h => by unfold putE putO; rw [h]; exact ⟨rfl, rfl, rfl⟩
  have HK := Lib.hid hk; clear hk
  have Hqa := Lib.hid qa; clear qa
  have Hqb := Lib.hid qb; clear qb
  have Hq0 := Lib.hid q0; clear q0
  have Hq1 := Lib.hid q1; clear q1
  have Hq2 := Lib.hid q2; clear q2
  have X := Blk.new w #[.int .i64 wd, .int .i64 hi, .bool wb, .slice a xs.length ca, .slice b ys.length cb] 27
  have Y := Blk.new1 w (.cells #[.int .i64 wd, .int .i64 hi, .bool wb, .slice a xs.length ca, .slice b ys.length cb] 27) #[.slice a0 e.length c0, .slice a1 x.length c1, .slice a2 y.length c2] 41
  replace X := X.alloc (.cells #[.slice a0 e.length c0, .slice a1 x.length c1, .slice a2 y.length c2] 41)
  have R := Blk.new2 w (.cells #[.int .i64 wd, .int .i64 hi, .bool wb, .slice a xs.length ca, .slice b ys.length cb] 27) (.cells #[.slice a0 e.length c0, .slice a1 x.length c1, .slice a2 y.length c2] 41) #[.slice none 0 0, .slice none 0 0, .slice none 0 0] 41
  replace X := X.alloc (.cells #[.slice none 0 0, .slice none 0 0, .slice none 0 0] 41)
  replace Y := Y.alloc (.cells #[.slice none 0 0, .slice none 0 0, .slice none 0 0] 41)
  have HB : Hid (Below w.heap.size w (((w.alloc (.cells #[.int .i64 wd, .int .i64 hi, .bool wb, .slice a xs.length ca, .slice b ys.length cb] 27)).alloc (.cells #[.slice a0 e.length c0, .slice a1 x.length c1, .slice a2 y.length c2] 41)).alloc (.cells #[.slice none 0 0, .slice none 0 0, .slice none 0 0] 41))) := Lib.hid ((((Below.refl w.heap.size w).alloc (by simp <;> omega) _).alloc (by simp <;> omega) _).alloc (by simp <;> omega) _)
  go_enter Try.func41, Try.ntmps41
  go_wp2_with fail
  generalize (((w.alloc (.cells #[.int .i64 wd, .int .i64 hi, .bool wb, .slice a xs.length ca, .slice b ys.length cb] 27)).alloc (.cells #[.slice a0 e.length c0, .slice a1 x.length c1, .slice a2 y.length c2] 41)).alloc (.cells #[.slice none 0 0, .slice none 0 0, .slice none 0 0] 41)) = u1 at *
  have zr0 := R.lt
  refine (implShapeOf _ _ _ _ _ _ _ _ _ _).mono ?_
  rintro r u2 ⟨rfl, q⟩
  have sz2 : u1.heap.size ≤ u2.heap.size := q.size
  replace X := X.later q
  replace Y := Y.later q
  replace R := R.later q
  replace HB := Lib.hid (HB.out.trans (q.mono HB.out.size))
  clear q
  have SZZ : w.heap.size + 1 + 1 < u2.heap.size + 0 := Nat.lt_of_lt_of_le R.lt (Nat.le_add_right _ _)
  have Z := Blk.new u2 #[.int .i64 wd, .int .i64 hi, .bool wb] 67
  have q := below_new u2 (.cells #[.int .i64 wd, .int .i64 hi, .bool wb] 67)
  replace X := X.later q
  replace Y := Y.later q
  replace R := R.later q
  replace HB := Lib.hid (HB.out.trans (q.mono HB.out.size))
  clear q
  have SZC := SZZ
  have C := Blk.new1 u2 (.cells #[.int .i64 wd, .int .i64 hi, .bool wb] 67) #[.int .i64 u, .int .i64 v] 88
  have q := below_new (u2.alloc (.cells #[.int .i64 wd, .int .i64 hi, .bool wb] 67)) (.cells #[.int .i64 u, .int .i64 v] 88)
  replace X := X.later q
  replace Y := Y.later q
  replace R := R.later q
  replace Z := Z.later q
  replace HB := Lib.hid (HB.out.trans (q.mono HB.out.size))
  clear q
  obtain ⟨Xc, Xf⟩ := X.open
  obtain ⟨Yc, Yf⟩ := Y.open
  go_wp2_with fail
  generalize ((u2.alloc (.cells #[.int .i64 wd, .int .i64 hi, .bool wb] 67)).alloc (.cells #[.int .i64 u, .int .i64 v] 88)) = u3 at *
  have sz3 : u2.heap.size + 1 < u3.heap.size := C.lt
  refine (implIsField _ _ _ _ _ _ _ _ _ _ _ _ _ _ _ _ _ _ _ (ha.later HB.out) (hb.later HB.out) hx hy (h0.later HB.out) (h1.later HB.out) (h2.later HB.out) m0 m1 m2).mono ?_
  rintro r u4 ⟨rfl, q⟩
  have sz4 : u3.heap.size ≤ u4.heap.size := q.size
  clear Xc Xf
  clear Yc Yf
  replace X := X.later q
  replace Y := Y.later q
  replace R := R.later q
  replace Z := Z.later q
  replace C := C.later q
  replace HB := Lib.hid (HB.out.trans (q.mono HB.out.size))
  clear q
  rcases hs : fieldB wd hi wb xs ys e x y with _ | _
  · skip
    have hn : putB wd hi wb xs ys e x y u v z = false := by rw [HP0.out, hs]; rfl
    obtain ⟨n0, n1, n2⟩ := HM.out hn
    have N0 := Lib.hid n0; have N1 := Lib.hid n1; have N2 := Lib.hid n2; have NN := Lib.hid hn; clear n0 n1 n2 hn
    obtain ⟨Rc, Rf⟩ := R.open
    go_wp2
    refine bodyPost_ret (v := .tuple #[.agg #[.slice none 0 0, .slice none 0 0, .slice none 0 0], .bool false]) (by simp [results, Try.results41, go_sem, Rc]) rfl ⟨none, none, none, 0, 0, 0, [], [], [], by rw [NN.out]; rfl, by rw [N0.out, N1.out, N2.out]; exact GotField.none (((HB.out.setCell (p := ⟨w.heap.size + 1 + 1, 0, none⟩) (by first | omega | (simp <;> omega)) _).setCell (p := ⟨w.heap.size + 1 + 1, 1, none⟩) (by first | omega | (simp <;> omega)) _).setCell (p := ⟨w.heap.size + 1 + 1, 2, none⟩) (by first | omega | (simp <;> omega)) _)⟩
  obtain ⟨p1, p2, l0, l1, l2⟩ := field_parts hs
  obtain ⟨s1, s2, s3, s4, t1, t2⟩ := sides_mul (valid_sides p1)
  have L0 := Lib.hid l0; have L1 := Lib.hid l1; have L2 := Lib.hid l2; clear l0 l1 l2 p1 p2
  obtain ⟨Zc, Zf⟩ := Z.open
  obtain ⟨Cc, Cf⟩ := C.open
  go_wp2_with fail
  refine (implHas _ _ _ _ _ _ s1 s2 s3 s4).mono ?_
  rintro r u5 ⟨rfl, q⟩
  have sz5 : u4.heap.size ≤ u5.heap.size := q.size
  clear Zc Zf
  clear Cc Cf
  replace X := X.later q
  replace Y := Y.later q
  replace R := R.later q
  replace Z := Z.later q
  replace C := C.later q
  replace HB := Lib.hid (HB.out.trans (q.mono HB.out.size))
  clear q
  rcases hc : cellB wd hi u v with _ | _
  · skip
    have hn : putB wd hi wb xs ys e x y u v z = false := by rw [HP0.out, hs, hc]; rfl
    obtain ⟨n0, n1, n2⟩ := HM.out hn
    have N0 := Lib.hid n0; have N1 := Lib.hid n1; have N2 := Lib.hid n2; have NN := Lib.hid hn; clear n0 n1 n2 hn
    obtain ⟨Rc, Rf⟩ := R.open
    go_wp2
    refine bodyPost_ret (v := .tuple #[.agg #[.slice none 0 0, .slice none 0 0, .slice none 0 0], .bool false]) (by simp [results, Try.results41, go_sem, Rc]) rfl ⟨none, none, none, 0, 0, 0, [], [], [], by rw [NN.out]; rfl, by rw [N0.out, N1.out, N2.out]; exact GotField.none (((HB.out.setCell (p := ⟨w.heap.size + 1 + 1, 0, none⟩) (by first | omega | (simp <;> omega)) _).setCell (p := ⟨w.heap.size + 1 + 1, 1, none⟩) (by first | omega | (simp <;> omega)) _).setCell (p := ⟨w.heap.size + 1 + 1, 2, none⟩) (by first | omega | (simp <;> omega)) _)⟩
  obtain ⟨Zc, Zf⟩ := Z.open
  obtain ⟨Cc, Cf⟩ := C.open
  go_wp2_with fail
  refine (implBorder _ _ _ _ _ _ s1 s2 s3 s4).mono ?_
  rintro r u6 ⟨rfl, q⟩
  have sz6 : u5.heap.size ≤ u6.heap.size := q.size
  clear Zc Zf
  clear Cc Cf
  replace X := X.later q
  replace Y := Y.later q
  replace R := R.later q
  replace Z := Z.later q
  replace C := C.later q
  replace HB := Lib.hid (HB.out.trans (q.mono HB.out.size))
  clear q
  rcases bd : bordB wb wd hi u v with _ | _
  · skip
    have hn : putB wd hi wb xs ys e x y u v z = true := by rw [HP0.out, hs, hc, bd]; rfl
    obtain ⟨n0, n1, n2⟩ := HK.out hn
    have N0 := Lib.hid n0; have N1 := Lib.hid n1; have N2 := Lib.hid n2; have NN := Lib.hid hn; clear n0 n1 n2 hn
    obtain ⟨i1, i2, i3, i4⟩ := index_in hc t2; obtain ⟨j1, j2, j3, j4⟩ := cell_in hc
    obtain ⟨j, hj⟩ := Int.eq_ofNat_of_zero_le i2
    have hje : j < e.length := by have := L0.out; omega
    have ij : (j : Int) < (e.length : Int) := by omega
    have HJ := Lib.hid hj
    have ne : e.length ≤ 256 := by have := L0.out; omega
    have nx : x.length ≤ 256 := by have := L1.out; omega
    have ny : y.length ≤ 256 := by have := L2.out; omega
    have gx : 0 < x.length := by have := L1.out; omega
    have gy : 0 < y.length := by have := L2.out; omega
    obtain ⟨pe, oe, rfl, ze⟩ := h0 0 _ (fvals_get (show 0 < e.length by omega))
    obtain ⟨px, ox, rfl, zx⟩ := h1 0 _ (fvals_get gx)
    obtain ⟨py, oy, rfl, zy⟩ := h2 0 _ (fvals_get gy)
    clear ze zx zy
    obtain ⟨Yc, Yf⟩ := Y.open
    go_wp2_with fail
    refine (implClone _ _ _ _ _ (h0.later HB.out) (by omega) (by omega)).mono ?_
    rintro r u7 ⟨g0, k0, rfl, W0, q⟩
    have sz7 : u6.heap.size ≤ u7.heap.size := q.size
    clear Yc Yf
    replace X := X.later q
    replace Y := Y.later q
    replace R := R.later q
    replace Z := Z.later q
    replace C := C.later q
    replace HB := Lib.hid (HB.out.trans (q.mono HB.out.size))
    clear q
    have zg := W0.bound g0 rfl; have zh := W0.span _ rfl; dsimp only at zh
    replace W0 := Lib.hid W0
    obtain ⟨Zc, Zf⟩ := Z.open
    obtain ⟨Cc, Cf⟩ := C.open
    go_wp2_with fail
    refine (implIndexOf _ _ _ _ _ _ i1 i4 j1 (by omega)).mono ?_
    rintro r u8 ⟨rfl, q⟩
    have sz8 : u7.heap.size ≤ u8.heap.size := q.size
    clear Zc Zf
    clear Cc Cf
    replace X := X.later q
    replace Y := Y.later q
    replace R := R.later q
    replace Z := Z.later q
    replace C := C.later q
    replace W0 := Lib.hid (W0.out.later q)
    replace HB := Lib.hid (HB.out.trans (q.mono HB.out.size))
    clear q
    obtain ⟨cs, ct, _, wb0, wv⟩ := own_some W0.out
    obtain ⟨wc, wf⟩ := wb0.open
    have wj := wv j _ (fvals_get hje)
    have wc0 := wc j; rw [wj] at wc0; have wf0 := wf j
    clear wc wf wv wj wb0
    have hset : u8.heap.size ≤ (u8.setCell ⟨g0, j, none⟩ (.float .f32 z)).heap.size := by simp
    have W1 := Lib.hid (own_put W0.out j (.float .f32 z) (by rw [fvals_length]; exact hje)); clear W0
    rw [fvals_set] at W1
    have ot := out_set u8 g0 j (.float .f32 z)
    have zr := R.lt
    have zz := Z.lt; have zc := C.lt; have zy := Y.lt; have zx := X.lt
    replace X := X.out ot (by omega)
    replace Y := Y.out ot (by omega)
    replace R := R.out ot (by omega)
    replace Z := Z.out ot (by omega)
    replace C := C.out ot (by omega)
    replace HB := Lib.hid (HB.out.setCell (p := ⟨g0, j, none⟩) (by dsimp only; have := HB.out.size; omega) (.float .f32 z))
    clear ot
    obtain ⟨Yc, Yf⟩ := Y.open
    go_wp2_with fail
    clear wc0 wf0
    clear Yc Yf
    generalize u8.setCell ⟨g0, j, none⟩ (.float .f32 z) = u9 at *
    have z7 := R.lt; have z6 := HB.out.size
    have zW := W1.out.span _ rfl; dsimp only at zW
    have b6 := HB.out; have hR : w.heap.size ≤ w.heap.size + 1 + 1 := by omega
    obtain ⟨Yc, Yf⟩ := Y.open
    clear Yc Yf
    have neY : w.heap.size + 1 ≠ w.heap.size + 1 + 1 := by omega
    have tk0 : True := trivial
    have tk1 : True := trivial
    go_region_held3 (fun w' => (∀ i, w'.cell? ⟨w.heap.size + 1, i, none⟩ = (#[.slice (some ⟨pe, oe, none⟩) e.length c0, .slice (some ⟨px, ox, none⟩) x.length c1, .slice (some ⟨py, oy, none⟩) y.length c2] : Array Value)[i]?) ∧ u9.grownBy w' (some (w.heap.size + 1 + 1))) (first | exact keepR1_start Y | exact keepR1_later Y neY (by assumption) (by assumption) | exact keepR1_set3 Y neY (by assumption) _ _ _)
      (first
        | (go_at_call 80; have _t := tk0; clear _t tk0; (with_reducible refine (implClone _ _ _ _ _ (row_heldR1 h1 b6 hR (by assumption)) gx (by omega)).mono ?_); rintro r u10 ⟨g1, k1, rfl, oo0, qa0⟩)
        | (go_at_call 80; have _t := tk1; clear _t tk1; (with_reducible refine (implClone _ _ _ _ _ (row_heldR1 h2 b6 hR (by assumption)) gy (by omega)).mono ?_); rintro r u11 ⟨g2, k2, rfl, oo1, qa1⟩; obtain ⟨Rc, Rf⟩ := (R.later (below_next (below_next (below_drew u9) qa0) qa1)).open))
    go_wp2
    have b1 : u9.heap.size ≤ g1 := oo0.bound g1 rfl; have b2 : u10.heap.size ≤ g2 := oo1.bound g2 rfl
    have z1 : u9.heap.size ≤ u10.heap.size := qa0.size; have z2 := qa1.size
    have z3 := (oo0.span _ rfl).2; dsimp only at z3
    refine bodyPost_ret (v := .tuple #[.agg #[.slice (some ⟨g0, 0, none⟩) e.length k0, .slice (some ⟨g1, 0, none⟩) x.length k1, .slice (some ⟨g2, 0, none⟩) y.length k2], .bool true]) (by simp [results, Try.results41, go_sem, Rc]) rfl ⟨some ⟨g0, 0, none⟩, some ⟨g1, 0, none⟩, some ⟨g2, 0, none⟩, k0, k1, k2, e.set j z, x, y, by rw [NN.out, List.length_set], by rw [N0.out, N1.out, N2.out, HJ.out, Int.toNat_natCast]; exact ⟨((((((W1.out.later (below_next (below_next (below_drew _) qa0) qa1))).lower (show w.heap.size ≤ _ by first | omega | exact z6)).set (p := ⟨w.heap.size + 1 + 1, 0, none⟩) (ne_block (h := w.heap.size + 1 + 1) (by omega)) _).set (p := ⟨w.heap.size + 1 + 1, 1, none⟩) (ne_block (h := w.heap.size + 1 + 1) (by omega)) _).set (p := ⟨w.heap.size + 1 + 1, 2, none⟩) (ne_block (h := w.heap.size + 1 + 1) (by omega)) _), (((((oo0.later qa1).lower (show w.heap.size ≤ _ by first | omega | exact z6)).set (p := ⟨w.heap.size + 1 + 1, 0, none⟩) (ne_block (h := w.heap.size + 1 + 1) (by omega)) _).set (p := ⟨w.heap.size + 1 + 1, 1, none⟩) (ne_block (h := w.heap.size + 1 + 1) (by omega)) _).set (p := ⟨w.heap.size + 1 + 1, 2, none⟩) (ne_block (h := w.heap.size + 1 + 1) (by omega)) _), (((((oo1).lower (show w.heap.size ≤ _ by first | omega | exact z6)).set (p := ⟨w.heap.size + 1 + 1, 0, none⟩) (ne_block (h := w.heap.size + 1 + 1) (by omega)) _).set (p := ⟨w.heap.size + 1 + 1, 1, none⟩) (ne_block (h := w.heap.size + 1 + 1) (by omega)) _).set (p := ⟨w.heap.size + 1 + 1, 2, none⟩) (ne_block (h := w.heap.size + 1 + 1) (by omega)) _), apart_ne (by omega), apart_ne (by omega), apart_ne (by omega), is_set Hq0.out ne j z wz, Is.refl Hq1.out nx, Is.refl Hq2.out ny, ((((HB.out.trans ((below_next (below_next (below_drew u9) qa0) qa1).mono HB.out.size)).setCell (p := ⟨w.heap.size + 1 + 1, 0, none⟩) (by first | omega | (simp <;> omega)) _).setCell (p := ⟨w.heap.size + 1 + 1, 1, none⟩) (by first | omega | (simp <;> omega)) _).setCell (p := ⟨w.heap.size + 1 + 1, 2, none⟩) (by first | omega | (simp <;> omega)) _)⟩⟩
  rcases nz : nzB z with _ | _
  · skip
    have hn : putB wd hi wb xs ys e x y u v z = true := by rw [HP0.out, hs, hc, bd, nz]; rfl
    obtain ⟨n0, n1, n2⟩ := HK.out hn
    have N0 := Lib.hid n0; have N1 := Lib.hid n1; have N2 := Lib.hid n2; have NN := Lib.hid hn; clear n0 n1 n2 hn
    unfold nzB at nz
    obtain ⟨i1, i2, i3, i4⟩ := index_in hc t2; obtain ⟨j1, j2, j3, j4⟩ := cell_in hc
    obtain ⟨j, hj⟩ := Int.eq_ofNat_of_zero_le i2
    have hje : j < e.length := by have := L0.out; omega
    have ij : (j : Int) < (e.length : Int) := by omega
    have HJ := Lib.hid hj
    have ne : e.length ≤ 256 := by have := L0.out; omega
    have nx : x.length ≤ 256 := by have := L1.out; omega
    have ny : y.length ≤ 256 := by have := L2.out; omega
    have gx : 0 < x.length := by have := L1.out; omega
    have gy : 0 < y.length := by have := L2.out; omega
    obtain ⟨pe, oe, rfl, ze⟩ := h0 0 _ (fvals_get (show 0 < e.length by omega))
    obtain ⟨px, ox, rfl, zx⟩ := h1 0 _ (fvals_get gx)
    obtain ⟨py, oy, rfl, zy⟩ := h2 0 _ (fvals_get gy)
    clear ze zx zy
    obtain ⟨Yc, Yf⟩ := Y.open
    go_wp2_with fail
    refine (implClone _ _ _ _ _ (h0.later HB.out) (by omega) (by omega)).mono ?_
    rintro r u12 ⟨g0, k0, rfl, W0, q⟩
    have sz12 : u6.heap.size ≤ u12.heap.size := q.size
    clear Yc Yf
    replace X := X.later q
    replace Y := Y.later q
    replace R := R.later q
    replace Z := Z.later q
    replace C := C.later q
    replace HB := Lib.hid (HB.out.trans (q.mono HB.out.size))
    clear q
    have zg := W0.bound g0 rfl; have zh := W0.span _ rfl; dsimp only at zh
    replace W0 := Lib.hid W0
    obtain ⟨Zc, Zf⟩ := Z.open
    obtain ⟨Cc, Cf⟩ := C.open
    go_wp2_with fail
    refine (implIndexOf _ _ _ _ _ _ i1 i4 j1 (by omega)).mono ?_
    rintro r u13 ⟨rfl, q⟩
    have sz13 : u12.heap.size ≤ u13.heap.size := q.size
    clear Zc Zf
    clear Cc Cf
    replace X := X.later q
    replace Y := Y.later q
    replace R := R.later q
    replace Z := Z.later q
    replace C := C.later q
    replace W0 := Lib.hid (W0.out.later q)
    replace HB := Lib.hid (HB.out.trans (q.mono HB.out.size))
    clear q
    obtain ⟨cs, ct, _, wb0, wv⟩ := own_some W0.out
    obtain ⟨wc, wf⟩ := wb0.open
    have wj := wv j _ (fvals_get hje)
    have wc0 := wc j; rw [wj] at wc0; have wf0 := wf j
    clear wc wf wv wj wb0
    have hset : u13.heap.size ≤ (u13.setCell ⟨g0, j, none⟩ (.float .f32 z)).heap.size := by simp
    have W1 := Lib.hid (own_put W0.out j (.float .f32 z) (by rw [fvals_length]; exact hje)); clear W0
    rw [fvals_set] at W1
    have ot := out_set u13 g0 j (.float .f32 z)
    have zr := R.lt
    have zz := Z.lt; have zc := C.lt; have zy := Y.lt; have zx := X.lt
    replace X := X.out ot (by omega)
    replace Y := Y.out ot (by omega)
    replace R := R.out ot (by omega)
    replace Z := Z.out ot (by omega)
    replace C := C.out ot (by omega)
    replace HB := Lib.hid (HB.out.setCell (p := ⟨g0, j, none⟩) (by dsimp only; have := HB.out.size; omega) (.float .f32 z))
    clear ot
    obtain ⟨Yc, Yf⟩ := Y.open
    go_wp2_with fail
    clear wc0 wf0
    clear Yc Yf
    generalize u13.setCell ⟨g0, j, none⟩ (.float .f32 z) = u14 at *
    have z7 := R.lt; have z6 := HB.out.size
    have zW := W1.out.span _ rfl; dsimp only at zW
    have b6 := HB.out; have hR : w.heap.size ≤ w.heap.size + 1 + 1 := by omega
    obtain ⟨Yc, Yf⟩ := Y.open
    clear Yc Yf
    have neY : w.heap.size + 1 ≠ w.heap.size + 1 + 1 := by omega
    have tk0 : True := trivial
    have tk1 : True := trivial
    go_region_held3 (fun w' => (∀ i, w'.cell? ⟨w.heap.size + 1, i, none⟩ = (#[.slice (some ⟨pe, oe, none⟩) e.length c0, .slice (some ⟨px, ox, none⟩) x.length c1, .slice (some ⟨py, oy, none⟩) y.length c2] : Array Value)[i]?) ∧ u14.grownBy w' (some (w.heap.size + 1 + 1))) (first | exact keepR1_start Y | exact keepR1_later Y neY (by assumption) (by assumption) | exact keepR1_set3 Y neY (by assumption) _ _ _)
      (first
        | (go_at_call 80; have _t := tk0; clear _t tk0; (with_reducible refine (implClone _ _ _ _ _ (row_heldR1 h1 b6 hR (by assumption)) gx (by omega)).mono ?_); rintro r u15 ⟨g1, k1, rfl, oo0, qa0⟩)
        | (go_at_call 80; have _t := tk1; clear _t tk1; (with_reducible refine (implClone _ _ _ _ _ (row_heldR1 h2 b6 hR (by assumption)) gy (by omega)).mono ?_); rintro r u16 ⟨g2, k2, rfl, oo1, qa1⟩; obtain ⟨Rc, Rf⟩ := (R.later (below_next (below_next (below_drew u14) qa0) qa1)).open))
    go_wp2
    have b1 : u14.heap.size ≤ g1 := oo0.bound g1 rfl; have b2 : u15.heap.size ≤ g2 := oo1.bound g2 rfl
    have z1 : u14.heap.size ≤ u15.heap.size := qa0.size; have z2 := qa1.size
    have z3 := (oo0.span _ rfl).2; dsimp only at z3
    refine bodyPost_ret (v := .tuple #[.agg #[.slice (some ⟨g0, 0, none⟩) e.length k0, .slice (some ⟨g1, 0, none⟩) x.length k1, .slice (some ⟨g2, 0, none⟩) y.length k2], .bool true]) (by simp [results, Try.results41, go_sem, Rc]) rfl ⟨some ⟨g0, 0, none⟩, some ⟨g1, 0, none⟩, some ⟨g2, 0, none⟩, k0, k1, k2, e.set j z, x, y, by rw [NN.out, List.length_set], by rw [N0.out, N1.out, N2.out, HJ.out, Int.toNat_natCast]; exact ⟨((((((W1.out.later (below_next (below_next (below_drew _) qa0) qa1))).lower (show w.heap.size ≤ _ by first | omega | exact z6)).set (p := ⟨w.heap.size + 1 + 1, 0, none⟩) (ne_block (h := w.heap.size + 1 + 1) (by omega)) _).set (p := ⟨w.heap.size + 1 + 1, 1, none⟩) (ne_block (h := w.heap.size + 1 + 1) (by omega)) _).set (p := ⟨w.heap.size + 1 + 1, 2, none⟩) (ne_block (h := w.heap.size + 1 + 1) (by omega)) _), (((((oo0.later qa1).lower (show w.heap.size ≤ _ by first | omega | exact z6)).set (p := ⟨w.heap.size + 1 + 1, 0, none⟩) (ne_block (h := w.heap.size + 1 + 1) (by omega)) _).set (p := ⟨w.heap.size + 1 + 1, 1, none⟩) (ne_block (h := w.heap.size + 1 + 1) (by omega)) _).set (p := ⟨w.heap.size + 1 + 1, 2, none⟩) (ne_block (h := w.heap.size + 1 + 1) (by omega)) _), (((((oo1).lower (show w.heap.size ≤ _ by first | omega | exact z6)).set (p := ⟨w.heap.size + 1 + 1, 0, none⟩) (ne_block (h := w.heap.size + 1 + 1) (by omega)) _).set (p := ⟨w.heap.size + 1 + 1, 1, none⟩) (ne_block (h := w.heap.size + 1 + 1) (by omega)) _).set (p := ⟨w.heap.size + 1 + 1, 2, none⟩) (ne_block (h := w.heap.size + 1 + 1) (by omega)) _), apart_ne (by omega), apart_ne (by omega), apart_ne (by omega), is_set Hq0.out ne j z wz, Is.refl Hq1.out nx, Is.refl Hq2.out ny, ((((HB.out.trans ((below_next (below_next (below_drew u14) qa0) qa1).mono HB.out.size)).setCell (p := ⟨w.heap.size + 1 + 1, 0, none⟩) (by first | omega | (simp <;> omega)) _).setCell (p := ⟨w.heap.size + 1 + 1, 1, none⟩) (by first | omega | (simp <;> omega)) _).setCell (p := ⟨w.heap.size + 1 + 1, 2, none⟩) (by first | omega | (simp <;> omega)) _)⟩⟩
  · skip
    have hn : putB wd hi wb xs ys e x y u v z = false := by rw [HP0.out, hs, hc, bd, nz]; rfl
    obtain ⟨n0, n1, n2⟩ := HM.out hn
    have N0 := Lib.hid n0; have N1 := Lib.hid n1; have N2 := Lib.hid n2; have NN := Lib.hid hn; clear n0 n1 n2 hn
    unfold nzB at nz
    obtain ⟨Rc, Rf⟩ := R.open
    go_wp2
    refine bodyPost_ret (v := .tuple #[.agg #[.slice none 0 0, .slice none 0 0, .slice none 0 0], .bool false]) (by simp [results, Try.results41, go_sem, Rc]) rfl ⟨none, none, none, 0, 0, 0, [], [], [], by rw [NN.out]; rfl, by rw [N0.out, N1.out, N2.out]; exact GotField.none (((HB.out.setCell (p := ⟨w.heap.size + 1 + 1, 0, none⟩) (by first | omega | (simp <;> omega)) _).setCell (p := ⟨w.heap.size + 1 + 1, 1, none⟩) (by first | omega | (simp <;> omega)) _).setCell (p := ⟨w.heap.size + 1 + 1, 2, none⟩) (by first | omega | (simp <;> omega)) _)⟩

end Go.Proofs.Ytabhjnpmmjmaiab
