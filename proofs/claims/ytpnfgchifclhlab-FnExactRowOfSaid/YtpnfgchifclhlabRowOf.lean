/- Rows of a field: the program's and the model's. Conditions: none beyond those of each theorem. -/
import Derived.Test.YtpnfgchifclhlabBu7
import Derived.Test.YtpnfgchifclhlabBu5
import Derived.Test.YtpnfgchifclhlabLstKit
namespace Go.Proofs.Ytpnfgchifclhlab
open Go Ieee Go.RowKit
set_option linter.unusedVariables false

def rowB (wd hi : Int) (wb : Bool) (xs ys e x y : List Nat) (v : Int) : Bool := fieldB wd hi wb xs ys e x y && cellB wd hi 0 v
def rowF (wd v : Int) (i : Nat) : Nat := (wd * v).toNat + i

theorem row_part {w : World} {b off q m : Nat} {e : List Nat} (h : RowV w (some ⟨b, off, none⟩) (fvals e)) (hq : q + m ≤ e.length) : RowV w (some ⟨b, off + q, none⟩) (fvals (placed (fun i => q + i) m e)) := by
  intro i u hu
  have hi : i < m := by
    have := (List.getElem?_eq_some_iff.1 hu).1
    rw [fvals_length, placed_length] at this; exact this
  rw [fvals_get (by rw [placed_length]; exact hi)] at hu
  obtain ⟨b', o', e', hc⟩ := h (q + i) _ (fvals_get (show q + i < e.length by omega))
  cases e'
  refine ⟨b, off + q, rfl, ?_⟩
  rw [show off + q + i = off + (q + i) by omega, hc, ← hu]
  simp [placed, List.getElem?_eq_getElem (show q + i < e.length by omega)]

theorem cellB_row {wd hi v : Int} (h : 3 ≤ wd) : cellB wd hi 0 v = decide (0 ≤ v ∧ v ≤ hi - 1) := by
  unfold cellB; rw [decide_eq_true (by omega)]; rfl

set_option maxHeartbeats 8000000 in
set_option maxRecDepth 100000 in
theorem implRowOfL (wd hi : Int) (wb : Bool) (a b : Option Addr) (ca cb : Nat) (xs ys : List Nat) (a0 a1 a2 : Option Addr) (c0 c1 c2 : Nat) (e x y : List Nat) (v : Int) (w : World) (ha : RowV w a (fvals xs)) (hb : RowV w b (fvals ys)) (qa : ∀ z ∈ xs, z < 2 ^ 32) (qb : ∀ z ∈ ys, z < 2 ^ 32) (hx : xs.length ≤ maxLen) (hy : ys.length ≤ maxLen) (h0 : RowV w a0 (fvals e)) (h1 : RowV w a1 (fvals x)) (h2 : RowV w a2 (fvals y)) (q0 : ∀ z ∈ e, z < 2 ^ 32) (q1 : ∀ z ∈ x, z < 2 ^ 32) (q2 : ∀ z ∈ y, z < 2 ^ 32) (m0 : e.length ≤ maxLen) (m1 : x.length ≤ maxLen) (m2 : y.length ≤ maxLen) (wv : (Lit.int .i64 v).wf = true) (hc0 : c0 = e.length := by rfl) :
    Calls Try.prog 54 #[.agg #[.int .i64 wd, .int .i64 hi, .bool wb, .slice a xs.length ca, .slice b ys.length cb], .agg #[.slice a0 e.length c0, .slice a1 x.length c1, .slice a2 y.length c2], .int .i64 v] w (GaveL w (rowB wd hi wb xs ys e x y v) (placed (rowF wd v) wd.toNat e)) := by
  have hfb := valB_split wd hi wb xs ys e x y; have HFB := Lib.hid hfb; clear hfb
  have HC0 := Lib.hid hc0; clear hc0
  rcases hfv : fieldB wd hi wb xs ys e x y with _ | _
  · skip
    have HR : Hid (rowB wd hi wb xs ys e x y v = false) := Lib.hid (by unfold rowB; rw [hfv]; rfl)
    rw [HR.out]
    have H_fb := Lib.hid hfv; clear hfv HFB
    have X := Blk.new w #[.int .i64 wd, .int .i64 hi, .bool wb, .slice a xs.length ca, .slice b ys.length cb] 32
    have Y := Blk.new1 w (.cells #[.int .i64 wd, .int .i64 hi, .bool wb, .slice a xs.length ca, .slice b ys.length cb] 32) #[.slice a0 e.length c0, .slice a1 x.length c1, .slice a2 y.length c2] 34
    replace X := X.alloc (.cells #[.slice a0 e.length c0, .slice a1 x.length c1, .slice a2 y.length c2] 34)
    have HB : Hid (Below w.heap.size w ((w.alloc (.cells #[.int .i64 wd, .int .i64 hi, .bool wb, .slice a xs.length ca, .slice b ys.length cb] 32)).alloc (.cells #[.slice a0 e.length c0, .slice a1 x.length c1, .slice a2 y.length c2] 34))) := Lib.hid (((Below.refl w.heap.size w).alloc (by simp <;> omega) _).alloc (by simp <;> omega) _)
    go_enter Try.func54, Try.ntmps54
    go_wp2_with fail
    generalize ((w.alloc (.cells #[.int .i64 wd, .int .i64 hi, .bool wb, .slice a xs.length ca, .slice b ys.length cb] 32)).alloc (.cells #[.slice a0 e.length c0, .slice a1 x.length c1, .slice a2 y.length c2] 34)) = u1 at *
    refine (implShapeOf _ _ _ _ _ _ _ _ _ _).mono ?_
    rintro r u2 ⟨rfl, q⟩
    replace X := X.later q
    replace Y := Y.later q
    replace HB := Lib.hid (HB.out.trans (q.mono HB.out.size))
    clear q
    have Z := Blk.new u2 #[.int .i64 wd, .int .i64 hi, .bool wb] 73
    have q := below_new u2 (.cells #[.int .i64 wd, .int .i64 hi, .bool wb] 73)
    replace X := X.later q
    replace Y := Y.later q
    replace HB := Lib.hid (HB.out.trans (q.mono HB.out.size))
    clear q
    obtain ⟨Xc, Xf⟩ := X.open
    obtain ⟨Yc, Yf⟩ := Y.open
    go_wp2_with fail
    generalize (u2.alloc (.cells #[.int .i64 wd, .int .i64 hi, .bool wb] 73)) = u3 at *
    refine (implIsField _ _ _ _ _ _ _ _ _ _ _ _ _ _ _ _ _ _ _ (ha.later HB.out) (hb.later HB.out) hx hy (h0.later HB.out) (h1.later HB.out) (h2.later HB.out) m0 m1 m2).mono ?_
    rintro r u4 ⟨rfl, q⟩
    clear Xc Xf
    clear Yc Yf
    replace X := X.later q
    replace Y := Y.later q
    replace Z := Z.later q
    replace HB := Lib.hid (HB.out.trans (q.mono HB.out.size))
    clear q
    rw [H_fb.out]
    go_wp2
    go_ret2
    exact ⟨none, 0, [], rfl, GotList.none HB.out⟩
  obtain ⟨p1, _, l0, l1, l2⟩ := field_parts hfv
  obtain ⟨s1, s2, s3, s4, t1, t2⟩ := sides_mul (valid_sides p1)
  have HRC := cellB_row (wd := wd) (hi := hi) (v := v) s1
  rcases hcv : cellB wd hi 0 v with _ | _
  · skip
    have HR : Hid (rowB wd hi wb xs ys e x y v = false) := Lib.hid (by unfold rowB; rw [hfv, hcv]; rfl)
    rw [HR.out]
    have H_d := Lib.hid (HRC.symm.trans hcv); have H_fb := Lib.hid hfv; have H_c := Lib.hid hcv; clear hfv HFB hcv l0 l1 l2 p1 HRC
    have X := Blk.new w #[.int .i64 wd, .int .i64 hi, .bool wb, .slice a xs.length ca, .slice b ys.length cb] 32
    have Y := Blk.new1 w (.cells #[.int .i64 wd, .int .i64 hi, .bool wb, .slice a xs.length ca, .slice b ys.length cb] 32) #[.slice a0 e.length c0, .slice a1 x.length c1, .slice a2 y.length c2] 34
    replace X := X.alloc (.cells #[.slice a0 e.length c0, .slice a1 x.length c1, .slice a2 y.length c2] 34)
    have HB : Hid (Below w.heap.size w ((w.alloc (.cells #[.int .i64 wd, .int .i64 hi, .bool wb, .slice a xs.length ca, .slice b ys.length cb] 32)).alloc (.cells #[.slice a0 e.length c0, .slice a1 x.length c1, .slice a2 y.length c2] 34))) := Lib.hid (((Below.refl w.heap.size w).alloc (by simp <;> omega) _).alloc (by simp <;> omega) _)
    go_enter Try.func54, Try.ntmps54
    go_wp2_with fail
    generalize ((w.alloc (.cells #[.int .i64 wd, .int .i64 hi, .bool wb, .slice a xs.length ca, .slice b ys.length cb] 32)).alloc (.cells #[.slice a0 e.length c0, .slice a1 x.length c1, .slice a2 y.length c2] 34)) = u1 at *
    refine (implShapeOf _ _ _ _ _ _ _ _ _ _).mono ?_
    rintro r u2 ⟨rfl, q⟩
    replace X := X.later q
    replace Y := Y.later q
    replace HB := Lib.hid (HB.out.trans (q.mono HB.out.size))
    clear q
    have Z := Blk.new u2 #[.int .i64 wd, .int .i64 hi, .bool wb] 73
    have q := below_new u2 (.cells #[.int .i64 wd, .int .i64 hi, .bool wb] 73)
    replace X := X.later q
    replace Y := Y.later q
    replace HB := Lib.hid (HB.out.trans (q.mono HB.out.size))
    clear q
    obtain ⟨Xc, Xf⟩ := X.open
    obtain ⟨Yc, Yf⟩ := Y.open
    go_wp2_with fail
    generalize (u2.alloc (.cells #[.int .i64 wd, .int .i64 hi, .bool wb] 73)) = u3 at *
    refine (implIsField _ _ _ _ _ _ _ _ _ _ _ _ _ _ _ _ _ _ _ (ha.later HB.out) (hb.later HB.out) hx hy (h0.later HB.out) (h1.later HB.out) (h2.later HB.out) m0 m1 m2).mono ?_
    rintro r u4 ⟨rfl, q⟩
    clear Xc Xf
    clear Yc Yf
    replace X := X.later q
    replace Y := Y.later q
    replace Z := Z.later q
    replace HB := Lib.hid (HB.out.trans (q.mono HB.out.size))
    clear q
    rw [H_fb.out]
    obtain ⟨Zc, Zf⟩ := Z.open
    go_wp2_with fail
    refine (implHas _ _ _ _ _ _ s1 s2 s3 s4).mono ?_
    rintro r u5 ⟨rfl, q⟩
    clear Zc Zf
    replace X := X.later q
    replace Y := Y.later q
    replace Z := Z.later q
    replace HB := Lib.hid (HB.out.trans (q.mono HB.out.size))
    clear q
    rw [H_c.out]
    obtain ⟨Zc, Zf⟩ := Z.open
    obtain ⟨Yc, Yf⟩ := Y.open
    go_wp2
    go_ret2
    exact ⟨none, 0, [], rfl, GotList.none HB.out⟩
  have HR : Hid (rowB wd hi wb xs ys e x y v = true) := Lib.hid (by unfold rowB; rw [hfv, hcv]; rfl)
  rw [HR.out]
  obtain ⟨i1, i2, i3, i4⟩ := index_in hcv t2; obtain ⟨j1, j2, j3, j4⟩ := cell_in hcv
  obtain ⟨qn, hq⟩ := Int.eq_ofNat_of_zero_le i1
  obtain ⟨m, hm⟩ := Int.eq_ofNat_of_zero_le (show 0 ≤ wd by omega)
  have hup : wd * v + wd ≤ wd * hi := by
    have := Int.mul_le_mul_of_nonneg_left (show v + 1 ≤ hi by omega) (show 0 ≤ wd by omega)
    rw [Int.mul_add, Int.mul_one] at this; exact this
  have hqm : qn + m ≤ e.length := by omega
  have hm0 : 0 < m := by omega
  have hm16 : m ≤ 16 := by omega
  have he256 : e.length ≤ 256 := by omega
  have HZ : Hid (placed (rowF wd v) wd.toNat e = placed (fun i => qn + i) m e) := Lib.hid (by rw [hm, Int.toNat_natCast]; exact placed_congr (fun i hi => by unfold rowF; rw [← hm, hq, Int.toNat_natCast]) e)
  rw [HZ.out]
  obtain ⟨b0, o0, rfl, hc⟩ := h0 0 _ (fvals_get (show 0 < e.length by omega))
  clear hc
  have hc0 := HC0.out; clear HC0; subst hc0
  have HPL : Hid ((placed (fun i => qn + i) m e).length = m) := Lib.hid (placed_length _ _ _)
  have H_d := Lib.hid (HRC.symm.trans hcv); have H_fb := Lib.hid hfv; have H_c := Lib.hid hcv; have HQ := Lib.hid hq; have HM := Lib.hid hm; clear hfv HFB hcv p1 HRC
  have HQ2 : Hid (0 + wd * v = (qn : Int)) := Lib.hid (by omega)
  have RP : ∀ u, Below w.heap.size w u → RowV u (some ⟨b0, o0 + qn, none⟩) (fvals (placed (fun i => qn + i) m e)) := fun u hu => row_part (h0.later hu) hqm
  have HRP := Lib.hid RP; clear RP
  have hl : (qn : Int) + (m : Int) ≤ (e.length : Int) := by omega
  clear hq hm hup l0 l1 l2 HQ
  have X := Blk.new w #[.int .i64 wd, .int .i64 hi, .bool wb, .slice a xs.length ca, .slice b ys.length cb] 32
  have Y := Blk.new1 w (.cells #[.int .i64 wd, .int .i64 hi, .bool wb, .slice a xs.length ca, .slice b ys.length cb] 32) #[.slice (some ⟨b0, o0, none⟩) e.length e.length, .slice a1 x.length c1, .slice a2 y.length c2] 34
  replace X := X.alloc (.cells #[.slice (some ⟨b0, o0, none⟩) e.length e.length, .slice a1 x.length c1, .slice a2 y.length c2] 34)
  have HB : Hid (Below w.heap.size w ((w.alloc (.cells #[.int .i64 wd, .int .i64 hi, .bool wb, .slice a xs.length ca, .slice b ys.length cb] 32)).alloc (.cells #[.slice (some ⟨b0, o0, none⟩) e.length e.length, .slice a1 x.length c1, .slice a2 y.length c2] 34))) := Lib.hid (((Below.refl w.heap.size w).alloc (by simp <;> omega) _).alloc (by simp <;> omega) _)
  go_enter Try.func54, Try.ntmps54
  go_wp2_with fail
  generalize ((w.alloc (.cells #[.int .i64 wd, .int .i64 hi, .bool wb, .slice a xs.length ca, .slice b ys.length cb] 32)).alloc (.cells #[.slice (some ⟨b0, o0, none⟩) e.length e.length, .slice a1 x.length c1, .slice a2 y.length c2] 34)) = u1 at *
  refine (implShapeOf _ _ _ _ _ _ _ _ _ _).mono ?_
  rintro r u2 ⟨rfl, q⟩
  replace X := X.later q
  replace Y := Y.later q
  replace HB := Lib.hid (HB.out.trans (q.mono HB.out.size))
  clear q
  have Z := Blk.new u2 #[.int .i64 wd, .int .i64 hi, .bool wb] 73
  have q := below_new u2 (.cells #[.int .i64 wd, .int .i64 hi, .bool wb] 73)
  replace X := X.later q
  replace Y := Y.later q
  replace HB := Lib.hid (HB.out.trans (q.mono HB.out.size))
  clear q
  obtain ⟨Xc, Xf⟩ := X.open
  obtain ⟨Yc, Yf⟩ := Y.open
  go_wp2_with fail
  generalize (u2.alloc (.cells #[.int .i64 wd, .int .i64 hi, .bool wb] 73)) = u3 at *
  refine (implIsField _ _ _ _ _ _ _ _ _ _ _ _ _ _ _ _ _ _ _ (ha.later HB.out) (hb.later HB.out) hx hy (h0.later HB.out) (h1.later HB.out) (h2.later HB.out) m0 m1 m2).mono ?_
  rintro r u4 ⟨rfl, q⟩
  clear Xc Xf
  clear Yc Yf
  replace X := X.later q
  replace Y := Y.later q
  replace Z := Z.later q
  replace HB := Lib.hid (HB.out.trans (q.mono HB.out.size))
  clear q
  rw [H_fb.out]
  obtain ⟨Zc, Zf⟩ := Z.open
  go_wp2_with fail
  refine (implHas _ _ _ _ _ _ s1 s2 s3 s4).mono ?_
  rintro r u5 ⟨rfl, q⟩
  clear Zc Zf
  replace X := X.later q
  replace Y := Y.later q
  replace Z := Z.later q
  replace HB := Lib.hid (HB.out.trans (q.mono HB.out.size))
  clear q
  rw [H_c.out]
  obtain ⟨Zc, Zf⟩ := Z.open
  obtain ⟨Yc, Yf⟩ := Y.open
  go_wp2_with fail
  refine (implIndexQ0 _ _ _ _ _ qn _ HQ2 i1 i4 (by omega) (by omega)).mono ?_
  rintro r u6 ⟨rfl, q⟩
  clear Zc Zf
  clear Yc Yf
  replace X := X.later q
  replace Y := Y.later q
  replace Z := Z.later q
  replace HB := Lib.hid (HB.out.trans (q.mono HB.out.size))
  clear q
  obtain ⟨Zc, Zf⟩ := Z.open
  obtain ⟨Yc, Yf⟩ := Y.open
  clear i1 i2 i3 i4
  have hm := HM.out
  have CLN : ∀ u c, Below w.heap.size w u → Calls Try.prog 94 #[.slice (some ⟨b0, o0 + qn, none⟩) m c] u fun e' w' => ∃ g c', e' = .returned (.slice (some ⟨g, 0, none⟩) m c') ∧ OwnV w' u.heap.size (some ⟨g, 0, none⟩) (fvals (placed (fun i => qn + i) m e)) ∧ Below u.heap.size u w' := fun u c hu => by
    have := implClone b0 (o0 + qn) c (placed (fun i => qn + i) m e) u (HRP.out _ hu) (by rw [HPL.out]; exact hm0) (by rw [HPL.out]; omega)
    rw [HPL.out] at this; exact this
  have HCLN := Lib.hid CLN; clear CLN
  have HBS := HB.out.size
  go_wp2_with fail
  refine (HCLN.out _ _ HB.out).mono ?_
  rintro r u7 ⟨g, c9, rfl, W, q⟩
  clear Zc Zf
  clear Yc Yf
  replace X := X.later q
  replace Y := Y.later q
  replace Z := Z.later q
  replace HB := Lib.hid (HB.out.trans (q.mono HB.out.size))
  clear q
  go_wp2
  go_ret2
  exact ⟨some ⟨g, 0, none⟩, c9, placed (fun i => qn + i) m e, by rw [HPL.out]; rfl, ⟨W.lower HBS, is_placed q0 (by omega), HB.out⟩⟩

set_option maxHeartbeats 8000000 in
set_option maxRecDepth 100000 in
theorem specRowOfL (wd hi : Int) (wb : Bool) (a b : Option Addr) (ca cb : Nat) (xs ys : List Nat) (a0 a1 a2 : Option Addr) (c0 c1 c2 : Nat) (e x y : List Nat) (v : Int) (w : World) (ha : RowV w a (fvals xs)) (hb : RowV w b (fvals ys)) (qa : ∀ z ∈ xs, z < 2 ^ 32) (qb : ∀ z ∈ ys, z < 2 ^ 32) (hx : xs.length ≤ maxLen) (hy : ys.length ≤ maxLen) (h0 : RowV w a0 (fvals e)) (h1 : RowV w a1 (fvals x)) (h2 : RowV w a2 (fvals y)) (q0 : ∀ z ∈ e, z < 2 ^ 32) (q1 : ∀ z ∈ x, z < 2 ^ 32) (q2 : ∀ z ∈ y, z < 2 ^ 32) (m0 : e.length ≤ maxLen) (m1 : x.length ≤ maxLen) (m2 : y.length ≤ maxLen) (wv : (Lit.int .i64 v).wf = true) (hc0 : c0 = e.length := by rfl) :
    Calls Try.prog 53 #[.agg #[.int .i64 wd, .int .i64 hi, .bool wb, .slice a xs.length ca, .slice b ys.length cb], .agg #[.slice a0 e.length c0, .slice a1 x.length c1, .slice a2 y.length c2], .int .i64 v] w (GaveL w (rowB wd hi wb xs ys e x y v) (placed (rowF wd v) wd.toNat e)) := by
  have hfb := valB_split wd hi wb xs ys e x y; have HFB := Lib.hid hfb; clear hfb
  have HC0 := Lib.hid hc0; clear hc0
  rcases hfv : fieldB wd hi wb xs ys e x y with _ | _
  · skip
    have HR : Hid (rowB wd hi wb xs ys e x y v = false) := Lib.hid (by unfold rowB; rw [hfv]; rfl)
    rw [HR.out]
    have H_fb := Lib.hid hfv; clear hfv HFB
    have X := Blk.new w #[.int .i64 wd, .int .i64 hi, .bool wb, .slice a xs.length ca, .slice b ys.length cb] 32
    have Y := Blk.new1 w (.cells #[.int .i64 wd, .int .i64 hi, .bool wb, .slice a xs.length ca, .slice b ys.length cb] 32) #[.slice a0 e.length c0, .slice a1 x.length c1, .slice a2 y.length c2] 34
    replace X := X.alloc (.cells #[.slice a0 e.length c0, .slice a1 x.length c1, .slice a2 y.length c2] 34)
    have HB : Hid (Below w.heap.size w ((w.alloc (.cells #[.int .i64 wd, .int .i64 hi, .bool wb, .slice a xs.length ca, .slice b ys.length cb] 32)).alloc (.cells #[.slice a0 e.length c0, .slice a1 x.length c1, .slice a2 y.length c2] 34))) := Lib.hid (((Below.refl w.heap.size w).alloc (by simp <;> omega) _).alloc (by simp <;> omega) _)
    go_enter Try.func53, Try.ntmps53
    go_wp2_with fail
    generalize ((w.alloc (.cells #[.int .i64 wd, .int .i64 hi, .bool wb, .slice a xs.length ca, .slice b ys.length cb] 32)).alloc (.cells #[.slice a0 e.length c0, .slice a1 x.length c1, .slice a2 y.length c2] 34)) = u1 at *
    refine (specBoth _ _ _ _ _ _ _ _ _ _ _ _ _ _ _ _ _ _ _ _ _ X Y (ha.later HB.out) (hb.later HB.out) hx hy (h0.later HB.out) (h1.later HB.out) (h2.later HB.out) m0 m1 m2).mono ?_
    rintro r u2 ⟨rfl, nq, hw⟩
    have q : Below u1.heap.size u1 u2 := by rw [hw]; exact below_drewN (Below.refl _ _) _
    clear hw
    replace X := X.later q
    replace Y := Y.later q
    replace HB := Lib.hid (HB.out.trans (q.mono HB.out.size))
    clear q
    rw [H_fb.out]
    go_wp2
    go_ret2
    exact ⟨none, 0, [], rfl, GotList.none HB.out⟩
  obtain ⟨p1, _, l0, l1, l2⟩ := field_parts hfv
  obtain ⟨s1, s2, s3, s4, t1, t2⟩ := sides_mul (valid_sides p1)
  have HRC := cellB_row (wd := wd) (hi := hi) (v := v) s1
  rcases hcv : cellB wd hi 0 v with _ | _
  · skip
    have HR : Hid (rowB wd hi wb xs ys e x y v = false) := Lib.hid (by unfold rowB; rw [hfv, hcv]; rfl)
    rw [HR.out]
    have H_d := Lib.hid (HRC.symm.trans hcv); have H_fb := Lib.hid hfv; have H_c := Lib.hid hcv; clear hfv HFB hcv l0 l1 l2 p1 HRC
    have X := Blk.new w #[.int .i64 wd, .int .i64 hi, .bool wb, .slice a xs.length ca, .slice b ys.length cb] 32
    have Y := Blk.new1 w (.cells #[.int .i64 wd, .int .i64 hi, .bool wb, .slice a xs.length ca, .slice b ys.length cb] 32) #[.slice a0 e.length c0, .slice a1 x.length c1, .slice a2 y.length c2] 34
    replace X := X.alloc (.cells #[.slice a0 e.length c0, .slice a1 x.length c1, .slice a2 y.length c2] 34)
    have HB : Hid (Below w.heap.size w ((w.alloc (.cells #[.int .i64 wd, .int .i64 hi, .bool wb, .slice a xs.length ca, .slice b ys.length cb] 32)).alloc (.cells #[.slice a0 e.length c0, .slice a1 x.length c1, .slice a2 y.length c2] 34))) := Lib.hid (((Below.refl w.heap.size w).alloc (by simp <;> omega) _).alloc (by simp <;> omega) _)
    go_enter Try.func53, Try.ntmps53
    go_wp2_with fail
    generalize ((w.alloc (.cells #[.int .i64 wd, .int .i64 hi, .bool wb, .slice a xs.length ca, .slice b ys.length cb] 32)).alloc (.cells #[.slice a0 e.length c0, .slice a1 x.length c1, .slice a2 y.length c2] 34)) = u1 at *
    refine (specBoth _ _ _ _ _ _ _ _ _ _ _ _ _ _ _ _ _ _ _ _ _ X Y (ha.later HB.out) (hb.later HB.out) hx hy (h0.later HB.out) (h1.later HB.out) (h2.later HB.out) m0 m1 m2).mono ?_
    rintro r u2 ⟨rfl, nq, hw⟩
    have q : Below u1.heap.size u1 u2 := by rw [hw]; exact below_drewN (Below.refl _ _) _
    clear hw
    replace X := X.later q
    replace Y := Y.later q
    replace HB := Lib.hid (HB.out.trans (q.mono HB.out.size))
    clear q
    rw [H_fb.out]
    obtain ⟨Xc, Xf⟩ := X.open
    obtain ⟨Yc, Yf⟩ := Y.open
    go_wp2_with fail
    refine (l00In_any _ _ _ _).mono ?_
    rintro r _ ⟨rfl, rfl⟩
    rw [show decide (0 ≤ v ∧ v ≤ hi - 1) = false from H_d.out]
    go_wp2
    go_ret2
    exact ⟨none, 0, [], rfl, GotList.none HB.out⟩
  have HR : Hid (rowB wd hi wb xs ys e x y v = true) := Lib.hid (by unfold rowB; rw [hfv, hcv]; rfl)
  rw [HR.out]
  obtain ⟨i1, i2, i3, i4⟩ := index_in hcv t2; obtain ⟨j1, j2, j3, j4⟩ := cell_in hcv
  obtain ⟨qn, hq⟩ := Int.eq_ofNat_of_zero_le i1
  obtain ⟨m, hm⟩ := Int.eq_ofNat_of_zero_le (show 0 ≤ wd by omega)
  have hup : wd * v + wd ≤ wd * hi := by
    have := Int.mul_le_mul_of_nonneg_left (show v + 1 ≤ hi by omega) (show 0 ≤ wd by omega)
    rw [Int.mul_add, Int.mul_one] at this; exact this
  have hqm : qn + m ≤ e.length := by omega
  have hm0 : 0 < m := by omega
  have hm16 : m ≤ 16 := by omega
  have he256 : e.length ≤ 256 := by omega
  have HZ : Hid (placed (rowF wd v) wd.toNat e = placed (fun i => qn + i) m e) := Lib.hid (by rw [hm, Int.toNat_natCast]; exact placed_congr (fun i hi => by unfold rowF; rw [← hm, hq, Int.toNat_natCast]) e)
  rw [HZ.out]
  obtain ⟨b0, o0, rfl, hc⟩ := h0 0 _ (fvals_get (show 0 < e.length by omega))
  clear hc
  have hc0 := HC0.out; clear HC0; subst hc0
  have HPL : Hid ((placed (fun i => qn + i) m e).length = m) := Lib.hid (placed_length _ _ _)
  have H_d := Lib.hid (HRC.symm.trans hcv); have H_fb := Lib.hid hfv; have H_c := Lib.hid hcv; have HQ := Lib.hid hq; have HM := Lib.hid hm; clear hfv HFB hcv p1 HRC
  have RP : ∀ u, Below w.heap.size w u → RowV u (some ⟨b0, o0 + qn, none⟩) (fvals (placed (fun i => qn + i) m e)) := fun u hu => row_part (h0.later hu) hqm
  have HRP := Lib.hid RP; clear RP
  have hl : (qn : Int) + (m : Int) ≤ (e.length : Int) := by omega
  have e1 : Hid ((m : Int) * (v + 1) = (qn : Int) + (m : Int)) := Lib.hid (by rw [← hm, Int.mul_add, Int.mul_one, hq])
  have HQM : Hid ((m : Int) * v = (qn : Int)) := Lib.hid (by rw [← hm, hq])
  clear hq hm hup l0 l1 l2
  have X := Blk.new w #[.int .i64 wd, .int .i64 hi, .bool wb, .slice a xs.length ca, .slice b ys.length cb] 32
  have Y := Blk.new1 w (.cells #[.int .i64 wd, .int .i64 hi, .bool wb, .slice a xs.length ca, .slice b ys.length cb] 32) #[.slice (some ⟨b0, o0, none⟩) e.length e.length, .slice a1 x.length c1, .slice a2 y.length c2] 34
  replace X := X.alloc (.cells #[.slice (some ⟨b0, o0, none⟩) e.length e.length, .slice a1 x.length c1, .slice a2 y.length c2] 34)
  have HB : Hid (Below w.heap.size w ((w.alloc (.cells #[.int .i64 wd, .int .i64 hi, .bool wb, .slice a xs.length ca, .slice b ys.length cb] 32)).alloc (.cells #[.slice (some ⟨b0, o0, none⟩) e.length e.length, .slice a1 x.length c1, .slice a2 y.length c2] 34))) := Lib.hid (((Below.refl w.heap.size w).alloc (by simp <;> omega) _).alloc (by simp <;> omega) _)
  go_enter Try.func53, Try.ntmps53
  go_wp2_with fail
  generalize ((w.alloc (.cells #[.int .i64 wd, .int .i64 hi, .bool wb, .slice a xs.length ca, .slice b ys.length cb] 32)).alloc (.cells #[.slice (some ⟨b0, o0, none⟩) e.length e.length, .slice a1 x.length c1, .slice a2 y.length c2] 34)) = u1 at *
  refine (specBoth _ _ _ _ _ _ _ _ _ _ _ _ _ _ _ _ _ _ _ _ _ X Y (ha.later HB.out) (hb.later HB.out) hx hy (h0.later HB.out) (h1.later HB.out) (h2.later HB.out) m0 m1 m2).mono ?_
  rintro r u2 ⟨rfl, nq, hw⟩
  have q : Below u1.heap.size u1 u2 := by rw [hw]; exact below_drewN (Below.refl _ _) _
  clear hw
  replace X := X.later q
  replace Y := Y.later q
  replace HB := Lib.hid (HB.out.trans (q.mono HB.out.size))
  clear q
  rw [H_fb.out]
  obtain ⟨Xc, Xf⟩ := X.open
  obtain ⟨Yc, Yf⟩ := Y.open
  go_wp2_with fail
  refine (l00In_any _ _ _ _).mono ?_
  rintro r _ ⟨rfl, rfl⟩
  rw [show decide (0 ≤ v ∧ v ≤ hi - 1) = true from H_d.out]
  have e2 := e1.out; have hq := HQM.out; clear i1 i2 i3 i4
  obtain ⟨ti, hi0, hz0, hz1, hz2⟩ := info_parts Try.infoF32
  have HI := Lib.hid hi0; have HZ0 := Lib.hid hz0; have HZ1 := Lib.hid hz1; have HZ2 := Lib.hid hz2; clear hi0 hz0 hz1 hz2
  have hm := HM.out
  have X1 := X.alloc (.cells #[] 29); have Y1 := Y.alloc (.cells #[] 29)
  obtain ⟨x1c, x1f⟩ := X1.open; obtain ⟨y1c, y1f⟩ := Y1.open
  go_wp2_with (at_builtin; refine wpList_append_own _ rfl _ _ 22 rfl u2.heap.size 29 ti (.float .f32 0) 1 4 Try.underlying22 HI.out HZ0.out HZ1.out HZ2.out rfl (by decide) (.slice (some ⟨u2.heap.size, 0, none⟩) 0 0) 0 [] rfl (World.ownsRow_made u2 _ 0 (Nat.le_refl _) (by decide) rfl) ⟨b0, o0 + qn, none⟩ m (e.length - qn) (fvals (placed (fun i => qn + i) m e)) (show Value.slice (some ⟨b0, o0 + qn, none⟩) (qn + m - qn) (e.length - qn) = Value.slice (some ⟨b0, o0 + qn, none⟩) m (e.length - qn) from by rw [Nat.add_sub_cancel_left]) (by rw [fvals_length, HPL.out, Nat.mul_one]) (row_news ((HRP.out _ HB.out).later (below_new _ _))) fvals_one (by unfold maxLen; omega) (by omega) (by simp) ?_; intro v' w9 hown hgrow _; obtain ⟨g, k9, hv, W, qq, _⟩ := appended hm0 hown hgrow; rw [hv]; clear hv hown hgrow)
  go_wp2
  go_ret2
  exact ⟨some ⟨g, 0, none⟩, k9, placed (fun i => qn + i) m e, by rw [HPL.out]; rfl, ⟨W.lower HB.out.size, is_placed q0 (by omega), HB.out.trans (qq.mono HB.out.size)⟩⟩

end Go.Proofs.Ytpnfgchifclhlab
