/- The value of a cell: the program's and the model's. Conditions: none beyond those of each theorem. -/
import Derived.Test.YtabhjnpmmjmaiabCells
namespace Go.Proofs.Ytabhjnpmmjmaiab
open Go Ieee Go.RowKit
set_option linter.unusedVariables false

def valB (wd hi : Int) (wb : Bool) (xs ys e x y : List Nat) (u v : Int) : Bool := fieldB wd hi wb xs ys e x y && cellB wd hi u v
def valV (wd hi : Int) (wb : Bool) (xs ys e x y : List Nat) (u v : Int) : Nat := if valB wd hi wb xs ys e x y u v then e.getD (u + wd * v).toNat 0 else 0

theorem field_parts {wd hi : Int} {wb : Bool} {xs ys e x y : List Nat} (h : fieldB wd hi wb xs ys e x y = true) : validB wd hi xs ys = true ∧ fitsB wd hi wb e x y = true ∧ (e.length : Int) = wd * hi ∧ (x.length : Int) = wd * hi ∧ (y.length : Int) = wd * hi := by
  unfold fieldB at h
  simp only [Bool.and_eq_true] at h
  refine ⟨h.1, h.2, ?_⟩
  have := h.2
  unfold fitsB at this
  simp only [Bool.and_eq_true, decide_eq_true_eq] at this
  exact ⟨this.1.1, this.1.2.1, this.1.2.2⟩

set_option maxHeartbeats 4000000 in
theorem implValueAt (wd hi : Int) (wb : Bool) (a b : Option Addr) (ca cb : Nat) (xs ys : List Nat) (a0 a1 a2 : Option Addr) (c0 c1 c2 : Nat) (e x y : List Nat) (u v : Int) (w : World) (ha : RowV w a (fvals xs)) (hb : RowV w b (fvals ys)) (hx : xs.length ≤ maxLen) (hy : ys.length ≤ maxLen) (h0 : RowV w a0 (fvals e)) (h1 : RowV w a1 (fvals x)) (h2 : RowV w a2 (fvals y)) (m0 : e.length ≤ maxLen) (m1 : x.length ≤ maxLen) (m2 : y.length ≤ maxLen) :
    Calls Try.prog 38 #[.agg #[.int .i64 wd, .int .i64 hi, .bool wb, .slice a xs.length ca, .slice b ys.length cb], .agg #[.slice a0 e.length c0, .slice a1 x.length c1, .slice a2 y.length c2], .int .i64 u, .int .i64 v] w fun r w' => r = .returned (.tuple #[.float .f32 (valV wd hi wb xs ys e x y u v), .bool (valB wd hi wb xs ys e x y u v)]) ∧ Below w.heap.size w w' := by
  have hb0 : valB wd hi wb xs ys e x y u v = (fieldB wd hi wb xs ys e x y && cellB wd hi u v) := rfl
  have hv0 : valV wd hi wb xs ys e x y u v = if valB wd hi wb xs ys e x y u v then e.getD (u + wd * v).toNat 0 else 0 := rfl
  have HV0 := Lib.hid hb0; have HV1 := Lib.hid hv0; clear hb0 hv0
  have X := Blk.new w #[.int .i64 wd, .int .i64 hi, .bool wb, .slice a xs.length ca, .slice b ys.length cb] 27
  have Y := Blk.new1 w (.cells #[.int .i64 wd, .int .i64 hi, .bool wb, .slice a xs.length ca, .slice b ys.length cb] 27) #[.slice a0 e.length c0, .slice a1 x.length c1, .slice a2 y.length c2] 41
  replace X := X.alloc (.cells #[.slice a0 e.length c0, .slice a1 x.length c1, .slice a2 y.length c2] 41)
  have HB : Hid (Below w.heap.size w ((w.alloc (.cells #[.int .i64 wd, .int .i64 hi, .bool wb, .slice a xs.length ca, .slice b ys.length cb] 27)).alloc (.cells #[.slice a0 e.length c0, .slice a1 x.length c1, .slice a2 y.length c2] 41))) := Lib.hid (((Below.refl w.heap.size w).alloc (by simp <;> omega) _).alloc (by simp <;> omega) _)
  go_enter Try.func38, Try.ntmps38
  go_wp2_with fail
  generalize ((w.alloc (.cells #[.int .i64 wd, .int .i64 hi, .bool wb, .slice a xs.length ca, .slice b ys.length cb] 27)).alloc (.cells #[.slice a0 e.length c0, .slice a1 x.length c1, .slice a2 y.length c2] 41)) = u1 at *
  refine (implShapeOf _ _ _ _ _ _ _ _ _ _).mono ?_
  rintro r u2 ⟨rfl, q⟩
  replace X := X.later q
  replace Y := Y.later q
  replace HB := Lib.hid (HB.out.trans (q.mono HB.out.size))
  clear q
  have Z := Blk.new u2 #[.int .i64 wd, .int .i64 hi, .bool wb] 67
  have q := below_new u2 (.cells #[.int .i64 wd, .int .i64 hi, .bool wb] 67)
  replace X := X.later q
  replace Y := Y.later q
  replace HB := Lib.hid (HB.out.trans (q.mono HB.out.size))
  clear q
  have C := Blk.new1 u2 (.cells #[.int .i64 wd, .int .i64 hi, .bool wb] 67) #[.int .i64 u, .int .i64 v] 88
  have q := below_new (u2.alloc (.cells #[.int .i64 wd, .int .i64 hi, .bool wb] 67)) (.cells #[.int .i64 u, .int .i64 v] 88)
  replace X := X.later q
  replace Y := Y.later q
  replace Z := Z.later q
  replace HB := Lib.hid (HB.out.trans (q.mono HB.out.size))
  clear q
  obtain ⟨Xc, Xf⟩ := X.open
  obtain ⟨Yc, Yf⟩ := Y.open
  go_wp2_with fail
  generalize ((u2.alloc (.cells #[.int .i64 wd, .int .i64 hi, .bool wb] 67)).alloc (.cells #[.int .i64 u, .int .i64 v] 88)) = u3 at *
  refine (implIsField _ _ _ _ _ _ _ _ _ _ _ _ _ _ _ _ _ _ _ (ha.later HB.out) (hb.later HB.out) hx hy (h0.later HB.out) (h1.later HB.out) (h2.later HB.out) m0 m1 m2).mono ?_
  rintro r u4 ⟨rfl, q⟩
  clear Xc Xf
  clear Yc Yf
  replace X := X.later q
  replace Y := Y.later q
  replace Z := Z.later q
  replace C := C.later q
  replace HB := Lib.hid (HB.out.trans (q.mono HB.out.size))
  clear q
  rcases hs : fieldB wd hi wb xs ys e x y with _ | _
  · go_wp2
    go_ret2
    exact ⟨by rw [HV1.out, HV0.out, hs]; rfl, HB.out⟩
  obtain ⟨p1, p2, l0, _, _⟩ := field_parts hs
  obtain ⟨s1, s2, s3, s4, t1, t2⟩ := sides_mul (valid_sides p1)
  have L0 := Lib.hid l0; clear l0 p1 p2
  obtain ⟨Zc, Zf⟩ := Z.open
  obtain ⟨Cc, Cf⟩ := C.open
  go_wp2_with fail
  refine (implHas _ _ _ _ _ _ s1 s2 s3 s4).mono ?_
  rintro r u5 ⟨rfl, q⟩
  clear Zc Zf
  clear Cc Cf
  replace X := X.later q
  replace Y := Y.later q
  replace Z := Z.later q
  replace C := C.later q
  replace HB := Lib.hid (HB.out.trans (q.mono HB.out.size))
  clear q
  rcases hc : cellB wd hi u v with _ | _
  · go_wp2
    go_ret2
    exact ⟨by rw [HV1.out, HV0.out, hs, hc]; rfl, HB.out⟩
  obtain ⟨i1, i2, i3, i4⟩ := index_in hc t2; obtain ⟨j1, j2, j3, j4⟩ := cell_in hc
  obtain ⟨j, hj⟩ := Int.eq_ofNat_of_zero_le i2
  have hje : j < e.length := by have := L0.out; omega
  obtain ⟨bb, oo, rfl, z⟩ := h0 j _ (fvals_get hje)
  have zz := cell_on z HB.out
  have ij : (j : Int) < (e.length : Int) := by omega
  have HG := Lib.hid (getD_get hje); have HJ := Lib.hid hj
  have E1 : Hid (valV wd hi wb xs ys e x y u v = e[j] ∧ valB wd hi wb xs ys e x y u v = true) := Lib.hid ⟨by rw [HV1.out, HV0.out, hs, hc, HJ.out]; exact HG.out, by rw [HV0.out, hs, hc]; rfl⟩
  obtain ⟨Zc, Zf⟩ := Z.open
  obtain ⟨Cc, Cf⟩ := C.open
  obtain ⟨Yc, Yf⟩ := Y.open
  go_wp2_with fail
  clear Zc Zf
  clear Cc Cf
  clear Yc Yf
  go_region_held3 (fun w' => (∀ i, w'.cell? ⟨u2.heap.size, i, none⟩ = (#[.int .i64 wd, .int .i64 hi, .bool wb] : Array Value)[i]?) ∧ (∀ i, w'.cell? ⟨u2.heap.size + 1, i, none⟩ = (#[.int .i64 u, .int .i64 v] : Array Value)[i]?) ∧ (∀ i, w'.cell? ⟨w.heap.size + 1, i, none⟩ = (#[.slice (some ⟨bb, oo, none⟩) e.length c0, .slice a1 x.length c1, .slice a2 y.length c2] : Array Value)[i]?) ∧ w'.cell? ⟨bb, oo + j, none⟩ = some (.float .f32 e[j]) ∧ Below u5.heap.size u5 w') (first | exact keep3c1_start Z C Y zz | exact keep3c1_later Z C Y zz (by assumption) (by assumption))
    (first
      | (go_at_call 77; (with_reducible refine (implIndexOf _ _ _ _ _ _ i1 i4 j1 (by omega)).mono ?_); rintro r u6 ⟨rfl, qa0⟩))
  have q := (below_next (below_drew u5) qa0)
  clear qa0
  replace X := X.later q
  replace Y := Y.later q
  replace Z := Z.later q
  replace C := C.later q
  replace HB := Lib.hid (HB.out.trans (q.mono HB.out.size))
  clear q
  go_wp2
  go_ret2
  exact ⟨by rw [E1.out.1, E1.out.2]; rfl, HB.out⟩

theorem valB_split (wd hi : Int) (wb : Bool) (xs ys e x y : List Nat) : fieldB wd hi wb xs ys e x y = (validB wd hi xs ys && fitsB wd hi wb e x y) := rfl

set_option maxHeartbeats 4000000 in
theorem specValueAt (wd hi : Int) (wb : Bool) (a b : Option Addr) (ca cb : Nat) (xs ys : List Nat) (a0 a1 a2 : Option Addr) (c0 c1 c2 : Nat) (e x y : List Nat) (u v : Int) (w : World) (ha : RowV w a (fvals xs)) (hb : RowV w b (fvals ys)) (hx : xs.length ≤ maxLen) (hy : ys.length ≤ maxLen) (h0 : RowV w a0 (fvals e)) (h1 : RowV w a1 (fvals x)) (h2 : RowV w a2 (fvals y)) (m0 : e.length ≤ maxLen) (m1 : x.length ≤ maxLen) (m2 : y.length ≤ maxLen) :
    Calls Try.prog 37 #[.agg #[.int .i64 wd, .int .i64 hi, .bool wb, .slice a xs.length ca, .slice b ys.length cb], .agg #[.slice a0 e.length c0, .slice a1 x.length c1, .slice a2 y.length c2], .int .i64 u, .int .i64 v] w fun r w' => r = .returned (.tuple #[.float .f32 (valV wd hi wb xs ys e x y u v), .bool (valB wd hi wb xs ys e x y u v)]) ∧ Below w.heap.size w w' := by
  have hb0 : valB wd hi wb xs ys e x y u v = (fieldB wd hi wb xs ys e x y && cellB wd hi u v) := rfl
  have hv0 : valV wd hi wb xs ys e x y u v = if valB wd hi wb xs ys e x y u v then e.getD (u + wd * v).toNat 0 else 0 := rfl
  have HV0 := Lib.hid hb0; have HV1 := Lib.hid hv0; clear hb0 hv0
  have hf0 := valB_split wd hi wb xs ys e x y
  have HF0 := Lib.hid hf0; clear hf0
  have X := Blk.new w #[.int .i64 wd, .int .i64 hi, .bool wb, .slice a xs.length ca, .slice b ys.length cb] 27
  have Y := Blk.new1 w (.cells #[.int .i64 wd, .int .i64 hi, .bool wb, .slice a xs.length ca, .slice b ys.length cb] 27) #[.slice a0 e.length c0, .slice a1 x.length c1, .slice a2 y.length c2] 41
  replace X := X.alloc (.cells #[.slice a0 e.length c0, .slice a1 x.length c1, .slice a2 y.length c2] 41)
  have HB : Hid (Below w.heap.size w ((w.alloc (.cells #[.int .i64 wd, .int .i64 hi, .bool wb, .slice a xs.length ca, .slice b ys.length cb] 27)).alloc (.cells #[.slice a0 e.length c0, .slice a1 x.length c1, .slice a2 y.length c2] 41))) := Lib.hid (((Below.refl w.heap.size w).alloc (by simp <;> omega) _).alloc (by simp <;> omega) _)
  go_enter Try.func37, Try.ntmps37
  go_wp2_with fail
  generalize ((w.alloc (.cells #[.int .i64 wd, .int .i64 hi, .bool wb, .slice a xs.length ca, .slice b ys.length cb] 27)).alloc (.cells #[.slice a0 e.length c0, .slice a1 x.length c1, .slice a2 y.length c2] 41)) = u1 at *
  refine (specIs _ _ _ _ _ _ _ _ _ _ _ X (ha.later HB.out) (hb.later HB.out) hx hy).mono ?_
  rintro r w' ⟨rfl, n, rfl⟩
  rcases hs : validB wd hi xs ys with _ | _
  · go_wp2
    go_ret2
    exact ⟨by rw [HV1.out, HV0.out, HF0.out, hs]; rfl, below_drewN HB.out _⟩
  obtain ⟨s1, s2, s3, s4, t1, t2⟩ := sides_mul (valid_sides hs)
  go_wp2_with fail
  refine (specFits _ _ _ _ _ _ _ _ _ _ _ _ _ _ _ _ _ _ _ _ _ (X.drewN n) (Y.drewN n) s1 s2 s3 s4 (RowV.drawn (h0.later HB.out) n) (RowV.drawn (h1.later HB.out) n) (RowV.drawn (h2.later HB.out) n) m0 m1 m2).mono ?_
  rintro r w' ⟨rfl, n2, rfl⟩
  rcases hf : fitsB wd hi wb e x y with _ | _
  · go_wp2
    go_ret2
    exact ⟨by rw [HV1.out, HV0.out, HF0.out, hs, hf]; rfl, below_drewN HB.out _⟩
  go_wp2_with fail
  refine (specCell _ _ _ _ _ _ _ _ _ (X.drewN _) s1 s2 s3 s4).mono ?_
  rintro r w' ⟨rfl, rfl⟩
  rcases hc : cellB wd hi u v with _ | _
  · go_wp2
    go_ret2
    exact ⟨by rw [HV1.out, HV0.out, HF0.out, hs, hf, hc]; rfl, below_drewN HB.out _⟩
  obtain ⟨_, _, l0, _, _⟩ := field_parts (by rw [HF0.out, hs, hf]; rfl)
  obtain ⟨i1, i2, i3, i4⟩ := index_in hc t2; obtain ⟨j1, j2, j3, j4⟩ := cell_in hc
  have L0 := Lib.hid l0; clear l0
  obtain ⟨j, hj⟩ := Int.eq_ofNat_of_zero_le i2
  have hje : j < e.length := by have := L0.out; omega
  obtain ⟨bb, oo, rfl, z⟩ := h0 j _ (fvals_get hje)
  have zz := cell_on z HB.out; clear z
  have ij : (j : Int) < (e.length : Int) := by omega
  have HG := Lib.hid (getD_get hje); have HJ := Lib.hid hj
  have E1 : Hid (valV wd hi wb xs ys e x y u v = e[j] ∧ valB wd hi wb xs ys e x y u v = true) := Lib.hid ⟨by rw [HV1.out, HV0.out, HF0.out, hs, hf, hc, HJ.out]; exact HG.out, by rw [HV0.out, HF0.out, hs, hf, hc]; rfl⟩
  obtain ⟨Xc, Xf⟩ := X.open
  obtain ⟨Yc, Yf⟩ := Y.open
  go_wp2
  go_ret2
  exact ⟨by rw [E1.out.1, E1.out.2]; rfl, below_drewN HB.out _⟩

theorem valV_lt {wd hi : Int} {wb : Bool} {xs ys e x y : List Nat} {u v : Int} (h : ∀ z ∈ e, z < 2 ^ 32) : valV wd hi wb xs ys e x y u v < 2 ^ 32 := by
  unfold valV
  split
  · rw [List.getD_eq_getElem?_getD]
    cases k : e[(u + wd * v).toNat]? with
    | none => decide
    | some z => exact h _ (List.mem_of_getElem? k)
  · decide

theorem specValueAtL (wd hi : Int) (wb : Bool) (a b : Option Addr) (ca cb : Nat) (xs ys : List Nat) (a0 a1 a2 : Option Addr) (c0 c1 c2 : Nat) (e x y : List Nat) (u v : Int) (w : World) (ha : RowV w a (fvals xs)) (hb : RowV w b (fvals ys)) (qa : ∀ z ∈ xs, z < 2 ^ 32) (qb : ∀ z ∈ ys, z < 2 ^ 32) (hx : xs.length ≤ maxLen) (hy : ys.length ≤ maxLen) (h0 : RowV w a0 (fvals e)) (h1 : RowV w a1 (fvals x)) (h2 : RowV w a2 (fvals y)) (q0 : ∀ z ∈ e, z < 2 ^ 32) (q1 : ∀ z ∈ x, z < 2 ^ 32) (q2 : ∀ z ∈ y, z < 2 ^ 32) (m0 : e.length ≤ maxLen) (m1 : x.length ≤ maxLen) (m2 : y.length ≤ maxLen) (wu : (Lit.int .i64 u).wf = true) (wv : (Lit.int .i64 v).wf = true) :
    Calls Try.prog 37 #[.agg #[.int .i64 wd, .int .i64 hi, .bool wb, .slice a xs.length ca, .slice b ys.length cb], .agg #[.slice a0 e.length c0, .slice a1 x.length c1, .slice a2 y.length c2], .int .i64 u, .int .i64 v] w fun r w' => ∃ z : Nat, r = .returned (.tuple #[.float .f32 z, .bool (valB wd hi wb xs ys e x y u v)]) ∧ canon .f32 z = canon .f32 (valV wd hi wb xs ys e x y u v) ∧ z < 2 ^ 32 ∧ Below w.heap.size w w' :=
  (specValueAt _ _ _ _ _ _ _ _ _ _ _ _ _ _ _ _ _ _ _ _ _ ha hb hx hy h0 h1 h2 m0 m1 m2).mono fun _ _ ⟨h, b⟩ => ⟨_, h, rfl, valV_lt q0, b⟩

theorem implValueAtL (wd hi : Int) (wb : Bool) (a b : Option Addr) (ca cb : Nat) (xs ys : List Nat) (a0 a1 a2 : Option Addr) (c0 c1 c2 : Nat) (e x y : List Nat) (u v : Int) (w : World) (ha : RowV w a (fvals xs)) (hb : RowV w b (fvals ys)) (qa : ∀ z ∈ xs, z < 2 ^ 32) (qb : ∀ z ∈ ys, z < 2 ^ 32) (hx : xs.length ≤ maxLen) (hy : ys.length ≤ maxLen) (h0 : RowV w a0 (fvals e)) (h1 : RowV w a1 (fvals x)) (h2 : RowV w a2 (fvals y)) (q0 : ∀ z ∈ e, z < 2 ^ 32) (q1 : ∀ z ∈ x, z < 2 ^ 32) (q2 : ∀ z ∈ y, z < 2 ^ 32) (m0 : e.length ≤ maxLen) (m1 : x.length ≤ maxLen) (m2 : y.length ≤ maxLen) (wu : (Lit.int .i64 u).wf = true) (wv : (Lit.int .i64 v).wf = true) :
    Calls Try.prog 38 #[.agg #[.int .i64 wd, .int .i64 hi, .bool wb, .slice a xs.length ca, .slice b ys.length cb], .agg #[.slice a0 e.length c0, .slice a1 x.length c1, .slice a2 y.length c2], .int .i64 u, .int .i64 v] w fun r w' => ∃ z : Nat, r = .returned (.tuple #[.float .f32 z, .bool (valB wd hi wb xs ys e x y u v)]) ∧ canon .f32 z = canon .f32 (valV wd hi wb xs ys e x y u v) ∧ z < 2 ^ 32 ∧ Below w.heap.size w w' :=
  (implValueAt _ _ _ _ _ _ _ _ _ _ _ _ _ _ _ _ _ _ _ _ _ ha hb hx hy h0 h1 h2 m0 m1 m2).mono fun _ _ ⟨h, b⟩ => ⟨_, h, rfl, valV_lt q0, b⟩

end Go.Proofs.Ytabhjnpmmjmaiab
