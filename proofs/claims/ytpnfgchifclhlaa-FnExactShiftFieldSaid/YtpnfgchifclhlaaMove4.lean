/- Sheets whose cells come from other places: the model's. Conditions: none beyond those of each theorem. -/
import Derived.Test.YtpnfgchifclhlaaBu8
import Derived.Test.YtpnfgchifclhlaaBu7
namespace Go.Proofs.Ytpnfgchifclhlaa
open Go Ieee Go.RowKit
set_option linter.unusedVariables false

def GaveS (B : Nat) (w : World) (b : Bool) (wm hm : Int) (wb : Bool) (z0 z1 : List Nat) (r : Ending) (w' : World) : Prop :=
  ∃ (a0 a1 : Option Addr) (c0 c1 : Nat) (y0 y1 : List Nat), r = .returned (.tuple #[.agg #[.int .i64 (ifI b wm), .int .i64 (ifI b hm), .bool (ifB b wb), .slice a0 y0.length c0, .slice a1 y1.length c1], .bool b]) ∧ GotSheet B w w' (ifL b z0) (ifL b z1) a0 a1 y0 y1

def HasS (w : World) (b : Bool) (wm hm : Int) (wb : Bool) (z0 z1 : List Nat) (r : Ending) (w' : World) : Prop :=
  ∃ (a0 a1 : Option Addr) (c0 c1 : Nat) (y0 y1 : List Nat), r = .returned (.tuple #[.agg #[.int .i64 (ifI b wm), .int .i64 (ifI b hm), .bool (ifB b wb), .slice a0 y0.length c0, .slice a1 y1.length c1], .bool b]) ∧ HasSheet w w' (ifL b z0) (ifL b z1) a0 a1 y0 y1

theorem GotSheet.has {w w' : World} {m0 m1 : List (Option Nat)} {a0 a1 : Option Addr} {y0 y1 : List Nat} (h : GotSheet w.heap.size w w' m0 m1 a0 a1 y0 y1) : HasSheet w w' m0 m1 a0 a1 y0 y1 := ⟨h.o0.row, h.o1.row, h.s0, h.s1, h.below⟩

theorem GaveS.has {w w' : World} {b : Bool} {wm hm : Int} {wb : Bool} {z0 z1 : List Nat} {r : Ending} (h : GaveS w.heap.size w b wm hm wb z0 z1 r w') : HasS w b wm hm wb z0 z1 r w' := by
  obtain ⟨a0, a1, c0, c1, y0, y1, hr, hg⟩ := h
  exact ⟨a0, a1, c0, c1, y0, y1, hr, hg.has⟩

set_option maxHeartbeats 8000000 in
set_option maxRecDepth 100000 in
theorem specSheet0 (g : Nat) (wd hi : Int) (wb : Bool) (a b : Option Addr) (ca cb : Nat) (xs ys : List Nat) (wm hm dx dy : Int) (f : Nat → Nat) (n : Nat) (w : World) (hg : Blk w g #[.int .i64 wd, .int .i64 hi, .bool wb, .slice a n ca, .slice b n cb] 27) (ha : RowV w a (fvals xs)) (hb : RowV w b (fvals ys)) (s1 : 3 ≤ wm) (s2 : wm ≤ 16) (s3 : 3 ≤ hm) (s4 : hm ≤ 16) (hn : wm * hm = n) (hx : xs.length = n) (hy : ys.length = n) (hf : ∀ j m k : Nat, (m : Int) < wm → (k : Int) < hm → (j : Int) = m + wm * k → (f j : Int) = wm - 1 - (m : Int) + wm * (k : Int) ∧ f j < n) :
    Calls Try.prog 75 #[.pointer (some ⟨g, 0, none⟩), .int .i64 wm, .int .i64 hm, .int .i64 0, .int .i64 dx, .int .i64 dy] w (GotS w wm hm wb n (placed f n xs) (placed f n ys)) := by
  have n0 : 0 < n := by
    have := Int.mul_le_mul s1 s3 (by omega) (by omega); omega
  have pl : ∀ zs, 0 < (placed f n zs).length := fun zs => by rw [placed_length]; exact n0
  have PL := Lib.hid pl; clear pl
  have HN := Lib.hid hn; have HX := Lib.hid hx; have HY := Lib.hid hy; have HF := Lib.hid hf; clear hf hn hx hy
  have C0 : ∀ u, RowV u a (fvals xs) → Calls Try.prog 79 #[.slice a n ca, .int .i64 wm, .int .i64 hm, .int .i64 0, .int .i64 dx, .int .i64 dy] u (GotL u n (placed f n xs)) := fun u hu => by
    have := specPlace0 a ca xs wm hm dx dy f n u hu s1 s2 s3 s4 HN.out HX.out HF.out
    rw [HX.out] at this; exact this
  have C1 : ∀ u, RowV u b (fvals ys) → Calls Try.prog 79 #[.slice b n cb, .int .i64 wm, .int .i64 hm, .int .i64 0, .int .i64 dx, .int .i64 dy] u (GotL u n (placed f n ys)) := fun u hu => by
    have := specPlace0 b cb ys wm hm dx dy f n u hu s1 s2 s3 s4 HN.out HY.out HF.out
    rw [HY.out] at this; exact this
  have CC0 := Lib.hid C0; have CC1 := Lib.hid C1; clear C0 C1
  have R := Blk.new w #[.int .i64 0, .int .i64 0, .bool false, .slice none 0 0, .slice none 0 0] 27
  have HB : Hid (Below w.heap.size w (w.alloc (.cells #[.int .i64 0, .int .i64 0, .bool false, .slice none 0 0, .slice none 0 0] 27))) := Lib.hid ((Below.refl w.heap.size w).alloc (by simp <;> omega) _)
  go_enter Try.func75, Try.ntmps75
  go_upto_region 1 with (fail)
  generalize (w.alloc (.cells #[.int .i64 0, .int .i64 0, .bool false, .slice none 0 0, .slice none 0 0] 27)) = u1 at *
  have G := hg.later HB.out
  have zr := R.lt; have zg := hg.lt; have zh := HB.out.size
  obtain ⟨Gc, Gf⟩ := G.open
  go_upto_region 2 with (fail)
  clear Gc Gf
  have BX := Blk.new u1 #[.int .i64 wm, .int .i64 hm, .bool wb, .slice none 0 0, .slice none 0 0] 27
  have q := below_new u1 (.cells #[.int .i64 wm, .int .i64 hm, .bool wb, .slice none 0 0, .slice none 0 0] 27)
  replace R := R.later q
  replace G := G.later q
  replace HB := Lib.hid (HB.out.trans (q.mono HB.out.size))
  clear q
  generalize u1.alloc (.cells #[.int .i64 wm, .int .i64 hm, .bool wb, .slice none 0 0, .slice none 0 0] 27) = u2 at *
  have zb : u1.heap.size < u2.heap.size := BX.lt
  obtain ⟨Gc, Gf⟩ := G.open
  go_wp2_with fail
  refine (CC0.out _ (ha.later HB.out)).mono ?_
  intro r u3 hgot
  obtain ⟨g0, c0, rfl, W0, gl0, gt0, q⟩ := gotL_some hgot (PL.out _); clear hgot
  have zq0 := q.size
  replace W0 := Lib.hid W0
  clear Gc Gf
  replace R := R.later q
  replace G := G.later q
  replace BX := BX.later q
  replace HB := Lib.hid (HB.out.trans (q.mono HB.out.size))
  clear q
  obtain ⟨BXc, BXf⟩ := BX.open
  go_upto_region 3 with (fail)
  clear BXc BXf
  have ot := out_set u3 u1.heap.size 3 (.slice (some ⟨g0, 0, none⟩) n c0)
  replace R := R.out ot (by omega)
  replace G := G.out ot (by omega)
  replace W0 := Lib.hid (W0.out.outside ot (lo := _) (hi := _) (fun x hx => by cases hx; exact ⟨Nat.le_refl g0, Nat.lt_succ_self g0⟩) (by omega))
  replace BX : Blk (u3.setCell ⟨u1.heap.size, 3, none⟩ (.slice (some ⟨g0, 0, none⟩) n c0)) u1.heap.size #[.int .i64 wm, .int .i64 hm, .bool wb, .slice (some ⟨g0, 0, none⟩) n c0, .slice none 0 0] 27 := BX.set 3 _
  replace HB := Lib.hid (HB.out.setCell (p := ⟨u1.heap.size, 3, none⟩) (by dsimp only; omega) (.slice (some ⟨g0, 0, none⟩) n c0))
  clear ot
  have ts4 : u3.heap.size ≤ (u3.setCell ⟨u1.heap.size, 3, none⟩ (.slice (some ⟨g0, 0, none⟩) n c0)).heap.size := by simp
  generalize u3.setCell ⟨u1.heap.size, 3, none⟩ (.slice (some ⟨g0, 0, none⟩) n c0) = u4 at *
  obtain ⟨Gc, Gf⟩ := G.open
  go_wp2_with fail
  refine (CC1.out _ (hb.later HB.out)).mono ?_
  intro r u5 hgot
  obtain ⟨g1, c1, rfl, W1, gl1, gt1, q⟩ := gotL_some hgot (PL.out _); clear hgot
  have zq1 := q.size
  replace W1 := Lib.hid W1
  clear Gc Gf
  replace R := R.later q
  replace G := G.later q
  replace BX := BX.later q
  replace W0 := Lib.hid (W0.out.later q)
  replace HB := Lib.hid (HB.out.trans (q.mono HB.out.size))
  clear q
  obtain ⟨BXc, BXf⟩ := BX.open
  go_upto_region 4 with (fail)
  clear BXc BXf
  have ot := out_set u5 u1.heap.size 4 (.slice (some ⟨g1, 0, none⟩) n c1)
  replace R := R.out ot (by omega)
  replace G := G.out ot (by omega)
  replace W0 := Lib.hid (W0.out.outside ot (lo := _) (hi := _) (fun x hx => by cases hx; exact ⟨Nat.le_refl g0, Nat.lt_succ_self g0⟩) (by omega))
  replace W1 := Lib.hid (W1.out.outside ot (lo := _) (hi := _) (fun x hx => by cases hx; exact ⟨Nat.le_refl g1, Nat.lt_succ_self g1⟩) (by omega))
  replace BX : Blk (u5.setCell ⟨u1.heap.size, 4, none⟩ (.slice (some ⟨g1, 0, none⟩) n c1)) u1.heap.size #[.int .i64 wm, .int .i64 hm, .bool wb, .slice (some ⟨g0, 0, none⟩) n c0, .slice (some ⟨g1, 0, none⟩) n c1] 27 := BX.set 4 _
  replace HB := Lib.hid (HB.out.setCell (p := ⟨u1.heap.size, 4, none⟩) (by dsimp only; omega) (.slice (some ⟨g1, 0, none⟩) n c1))
  clear ot
  have ts6 : u5.heap.size ≤ (u5.setCell ⟨u1.heap.size, 4, none⟩ (.slice (some ⟨g1, 0, none⟩) n c1)).heap.size := by simp
  generalize u5.setCell ⟨u1.heap.size, 4, none⟩ (.slice (some ⟨g1, 0, none⟩) n c1) = u6 at *
  obtain ⟨BXc, BXf⟩ := BX.open
  obtain ⟨Rc, Rf⟩ := R.open
  go_wp2
  refine bodyPost_ret (v := .agg #[.int .i64 wm, .int .i64 hm, .bool wb, .slice (some ⟨g0, 0, none⟩) n c0, .slice (some ⟨g1, 0, none⟩) n c1]) (by simp [results, Try.results75, go_sem, Rc]) rfl ⟨g0, g1, c0, c1, rfl, ((((((W0.out.lower (show w.heap.size ≤ _ by omega)).set (p := ⟨w.heap.size, 0, none⟩) (ne_block (h := w.heap.size) (by omega)) _).set (p := ⟨w.heap.size, 1, none⟩) (ne_block (h := w.heap.size) (by omega)) _).set (p := ⟨w.heap.size, 2, none⟩) (ne_block (h := w.heap.size) (by omega)) _).set (p := ⟨w.heap.size, 3, none⟩) (ne_block (h := w.heap.size) (by omega)) _).set (p := ⟨w.heap.size, 4, none⟩) (ne_block (h := w.heap.size) (by omega)) _), ((((((W1.out.lower (show w.heap.size ≤ _ by omega)).set (p := ⟨w.heap.size, 0, none⟩) (ne_block (h := w.heap.size) (by omega)) _).set (p := ⟨w.heap.size, 1, none⟩) (ne_block (h := w.heap.size) (by omega)) _).set (p := ⟨w.heap.size, 2, none⟩) (ne_block (h := w.heap.size) (by omega)) _).set (p := ⟨w.heap.size, 3, none⟩) (ne_block (h := w.heap.size) (by omega)) _).set (p := ⟨w.heap.size, 4, none⟩) (ne_block (h := w.heap.size) (by omega)) _), by omega, (((((HB.out.setCell (p := ⟨w.heap.size, 0, none⟩) (Nat.le_refl _) _).setCell (p := ⟨w.heap.size, 1, none⟩) (Nat.le_refl _) _).setCell (p := ⟨w.heap.size, 2, none⟩) (Nat.le_refl _) _).setCell (p := ⟨w.heap.size, 3, none⟩) (Nat.le_refl _) _).setCell (p := ⟨w.heap.size, 4, none⟩) (Nat.le_refl _) _)⟩

set_option maxHeartbeats 8000000 in
set_option maxRecDepth 100000 in
theorem specSheet2 (g : Nat) (wd hi : Int) (wb : Bool) (a b : Option Addr) (ca cb : Nat) (xs ys : List Nat) (wm hm dx dy : Int) (f : Nat → Nat) (n : Nat) (w : World) (hg : Blk w g #[.int .i64 wd, .int .i64 hi, .bool wb, .slice a n ca, .slice b n cb] 27) (ha : RowV w a (fvals xs)) (hb : RowV w b (fvals ys)) (s1 : 3 ≤ wm) (s2 : wm ≤ 16) (s3 : 3 ≤ hm) (s4 : hm ≤ 16) (hn : wm * hm = n) (hx : xs.length = n) (hy : ys.length = n) (hf : ∀ j m k : Nat, (m : Int) < wm → (k : Int) < hm → (j : Int) = m + wm * k → (f j : Int) = (k : Int) + hm * (m : Int) ∧ f j < n) :
    Calls Try.prog 75 #[.pointer (some ⟨g, 0, none⟩), .int .i64 wm, .int .i64 hm, .int .i64 2, .int .i64 dx, .int .i64 dy] w (GotS w wm hm wb n (placed f n xs) (placed f n ys)) := by
  have n0 : 0 < n := by
    have := Int.mul_le_mul s1 s3 (by omega) (by omega); omega
  have pl : ∀ zs, 0 < (placed f n zs).length := fun zs => by rw [placed_length]; exact n0
  have PL := Lib.hid pl; clear pl
  have HN := Lib.hid hn; have HX := Lib.hid hx; have HY := Lib.hid hy; have HF := Lib.hid hf; clear hf hn hx hy
  have C0 : ∀ u, RowV u a (fvals xs) → Calls Try.prog 79 #[.slice a n ca, .int .i64 wm, .int .i64 hm, .int .i64 2, .int .i64 dx, .int .i64 dy] u (GotL u n (placed f n xs)) := fun u hu => by
    have := specPlace2 a ca xs wm hm dx dy f n u hu s1 s2 s3 s4 HN.out HX.out HF.out
    rw [HX.out] at this; exact this
  have C1 : ∀ u, RowV u b (fvals ys) → Calls Try.prog 79 #[.slice b n cb, .int .i64 wm, .int .i64 hm, .int .i64 2, .int .i64 dx, .int .i64 dy] u (GotL u n (placed f n ys)) := fun u hu => by
    have := specPlace2 b cb ys wm hm dx dy f n u hu s1 s2 s3 s4 HN.out HY.out HF.out
    rw [HY.out] at this; exact this
  have CC0 := Lib.hid C0; have CC1 := Lib.hid C1; clear C0 C1
  have R := Blk.new w #[.int .i64 0, .int .i64 0, .bool false, .slice none 0 0, .slice none 0 0] 27
  have HB : Hid (Below w.heap.size w (w.alloc (.cells #[.int .i64 0, .int .i64 0, .bool false, .slice none 0 0, .slice none 0 0] 27))) := Lib.hid ((Below.refl w.heap.size w).alloc (by simp <;> omega) _)
  go_enter Try.func75, Try.ntmps75
  go_upto_region 1 with (fail)
  generalize (w.alloc (.cells #[.int .i64 0, .int .i64 0, .bool false, .slice none 0 0, .slice none 0 0] 27)) = u1 at *
  have G := hg.later HB.out
  have zr := R.lt; have zg := hg.lt; have zh := HB.out.size
  obtain ⟨Gc, Gf⟩ := G.open
  go_upto_region 2 with (fail)
  clear Gc Gf
  have BX := Blk.new u1 #[.int .i64 wm, .int .i64 hm, .bool wb, .slice none 0 0, .slice none 0 0] 27
  have q := below_new u1 (.cells #[.int .i64 wm, .int .i64 hm, .bool wb, .slice none 0 0, .slice none 0 0] 27)
  replace R := R.later q
  replace G := G.later q
  replace HB := Lib.hid (HB.out.trans (q.mono HB.out.size))
  clear q
  generalize u1.alloc (.cells #[.int .i64 wm, .int .i64 hm, .bool wb, .slice none 0 0, .slice none 0 0] 27) = u2 at *
  have zb : u1.heap.size < u2.heap.size := BX.lt
  obtain ⟨Gc, Gf⟩ := G.open
  go_wp2_with fail
  refine (CC0.out _ (ha.later HB.out)).mono ?_
  intro r u3 hgot
  obtain ⟨g0, c0, rfl, W0, gl0, gt0, q⟩ := gotL_some hgot (PL.out _); clear hgot
  have zq0 := q.size
  replace W0 := Lib.hid W0
  clear Gc Gf
  replace R := R.later q
  replace G := G.later q
  replace BX := BX.later q
  replace HB := Lib.hid (HB.out.trans (q.mono HB.out.size))
  clear q
  obtain ⟨BXc, BXf⟩ := BX.open
  go_upto_region 3 with (fail)
  clear BXc BXf
  have ot := out_set u3 u1.heap.size 3 (.slice (some ⟨g0, 0, none⟩) n c0)
  replace R := R.out ot (by omega)
  replace G := G.out ot (by omega)
  replace W0 := Lib.hid (W0.out.outside ot (lo := _) (hi := _) (fun x hx => by cases hx; exact ⟨Nat.le_refl g0, Nat.lt_succ_self g0⟩) (by omega))
  replace BX : Blk (u3.setCell ⟨u1.heap.size, 3, none⟩ (.slice (some ⟨g0, 0, none⟩) n c0)) u1.heap.size #[.int .i64 wm, .int .i64 hm, .bool wb, .slice (some ⟨g0, 0, none⟩) n c0, .slice none 0 0] 27 := BX.set 3 _
  replace HB := Lib.hid (HB.out.setCell (p := ⟨u1.heap.size, 3, none⟩) (by dsimp only; omega) (.slice (some ⟨g0, 0, none⟩) n c0))
  clear ot
  have ts4 : u3.heap.size ≤ (u3.setCell ⟨u1.heap.size, 3, none⟩ (.slice (some ⟨g0, 0, none⟩) n c0)).heap.size := by simp
  generalize u3.setCell ⟨u1.heap.size, 3, none⟩ (.slice (some ⟨g0, 0, none⟩) n c0) = u4 at *
  obtain ⟨Gc, Gf⟩ := G.open
  go_wp2_with fail
  refine (CC1.out _ (hb.later HB.out)).mono ?_
  intro r u5 hgot
  obtain ⟨g1, c1, rfl, W1, gl1, gt1, q⟩ := gotL_some hgot (PL.out _); clear hgot
  have zq1 := q.size
  replace W1 := Lib.hid W1
  clear Gc Gf
  replace R := R.later q
  replace G := G.later q
  replace BX := BX.later q
  replace W0 := Lib.hid (W0.out.later q)
  replace HB := Lib.hid (HB.out.trans (q.mono HB.out.size))
  clear q
  obtain ⟨BXc, BXf⟩ := BX.open
  go_upto_region 4 with (fail)
  clear BXc BXf
  have ot := out_set u5 u1.heap.size 4 (.slice (some ⟨g1, 0, none⟩) n c1)
  replace R := R.out ot (by omega)
  replace G := G.out ot (by omega)
  replace W0 := Lib.hid (W0.out.outside ot (lo := _) (hi := _) (fun x hx => by cases hx; exact ⟨Nat.le_refl g0, Nat.lt_succ_self g0⟩) (by omega))
  replace W1 := Lib.hid (W1.out.outside ot (lo := _) (hi := _) (fun x hx => by cases hx; exact ⟨Nat.le_refl g1, Nat.lt_succ_self g1⟩) (by omega))
  replace BX : Blk (u5.setCell ⟨u1.heap.size, 4, none⟩ (.slice (some ⟨g1, 0, none⟩) n c1)) u1.heap.size #[.int .i64 wm, .int .i64 hm, .bool wb, .slice (some ⟨g0, 0, none⟩) n c0, .slice (some ⟨g1, 0, none⟩) n c1] 27 := BX.set 4 _
  replace HB := Lib.hid (HB.out.setCell (p := ⟨u1.heap.size, 4, none⟩) (by dsimp only; omega) (.slice (some ⟨g1, 0, none⟩) n c1))
  clear ot
  have ts6 : u5.heap.size ≤ (u5.setCell ⟨u1.heap.size, 4, none⟩ (.slice (some ⟨g1, 0, none⟩) n c1)).heap.size := by simp
  generalize u5.setCell ⟨u1.heap.size, 4, none⟩ (.slice (some ⟨g1, 0, none⟩) n c1) = u6 at *
  obtain ⟨BXc, BXf⟩ := BX.open
  obtain ⟨Rc, Rf⟩ := R.open
  go_wp2
  refine bodyPost_ret (v := .agg #[.int .i64 wm, .int .i64 hm, .bool wb, .slice (some ⟨g0, 0, none⟩) n c0, .slice (some ⟨g1, 0, none⟩) n c1]) (by simp [results, Try.results75, go_sem, Rc]) rfl ⟨g0, g1, c0, c1, rfl, ((((((W0.out.lower (show w.heap.size ≤ _ by omega)).set (p := ⟨w.heap.size, 0, none⟩) (ne_block (h := w.heap.size) (by omega)) _).set (p := ⟨w.heap.size, 1, none⟩) (ne_block (h := w.heap.size) (by omega)) _).set (p := ⟨w.heap.size, 2, none⟩) (ne_block (h := w.heap.size) (by omega)) _).set (p := ⟨w.heap.size, 3, none⟩) (ne_block (h := w.heap.size) (by omega)) _).set (p := ⟨w.heap.size, 4, none⟩) (ne_block (h := w.heap.size) (by omega)) _), ((((((W1.out.lower (show w.heap.size ≤ _ by omega)).set (p := ⟨w.heap.size, 0, none⟩) (ne_block (h := w.heap.size) (by omega)) _).set (p := ⟨w.heap.size, 1, none⟩) (ne_block (h := w.heap.size) (by omega)) _).set (p := ⟨w.heap.size, 2, none⟩) (ne_block (h := w.heap.size) (by omega)) _).set (p := ⟨w.heap.size, 3, none⟩) (ne_block (h := w.heap.size) (by omega)) _).set (p := ⟨w.heap.size, 4, none⟩) (ne_block (h := w.heap.size) (by omega)) _), by omega, (((((HB.out.setCell (p := ⟨w.heap.size, 0, none⟩) (Nat.le_refl _) _).setCell (p := ⟨w.heap.size, 1, none⟩) (Nat.le_refl _) _).setCell (p := ⟨w.heap.size, 2, none⟩) (Nat.le_refl _) _).setCell (p := ⟨w.heap.size, 3, none⟩) (Nat.le_refl _) _).setCell (p := ⟨w.heap.size, 4, none⟩) (Nat.le_refl _) _)⟩

set_option maxHeartbeats 8000000 in
set_option maxRecDepth 100000 in
theorem specSheet3 (g : Nat) (wd hi : Int) (wb : Bool) (a b : Option Addr) (ca cb : Nat) (xs ys : List Nat) (wm hm dx dy : Int) (f : Nat → Nat) (n : Nat) (w : World) (hg : Blk w g #[.int .i64 wd, .int .i64 hi, .bool wb, .slice a n ca, .slice b n cb] 27) (ha : RowV w a (fvals xs)) (hb : RowV w b (fvals ys)) (s1 : 3 ≤ wm) (s2 : wm ≤ 16) (s3 : 3 ≤ hm) (s4 : hm ≤ 16) (d1 : -wm < dx) (d2 : dx < wm) (d3 : -hm < dy) (d4 : dy < hm) (hn : wm * hm = n) (hx : xs.length = n) (hy : ys.length = n) (hf : ∀ j m k : Nat, (m : Int) < wm → (k : Int) < hm → (j : Int) = m + wm * k → (f j : Int) = ((m : Int) - dx) % wm + wm * (((k : Int) - dy) % hm) ∧ f j < n) :
    Calls Try.prog 75 #[.pointer (some ⟨g, 0, none⟩), .int .i64 wm, .int .i64 hm, .int .i64 3, .int .i64 dx, .int .i64 dy] w (GotS w wm hm wb n (placed f n xs) (placed f n ys)) := by
  have n0 : 0 < n := by
    have := Int.mul_le_mul s1 s3 (by omega) (by omega); omega
  have pl : ∀ zs, 0 < (placed f n zs).length := fun zs => by rw [placed_length]; exact n0
  have PL := Lib.hid pl; clear pl
  have HN := Lib.hid hn; have HX := Lib.hid hx; have HY := Lib.hid hy; have HF := Lib.hid hf; clear hf hn hx hy
  have C0 : ∀ u, RowV u a (fvals xs) → Calls Try.prog 79 #[.slice a n ca, .int .i64 wm, .int .i64 hm, .int .i64 3, .int .i64 dx, .int .i64 dy] u (GotL u n (placed f n xs)) := fun u hu => by
    have := specPlace3 a ca xs wm hm dx dy f n u hu s1 s2 s3 s4 d1 d2 d3 d4 HN.out HX.out HF.out
    rw [HX.out] at this; exact this
  have C1 : ∀ u, RowV u b (fvals ys) → Calls Try.prog 79 #[.slice b n cb, .int .i64 wm, .int .i64 hm, .int .i64 3, .int .i64 dx, .int .i64 dy] u (GotL u n (placed f n ys)) := fun u hu => by
    have := specPlace3 b cb ys wm hm dx dy f n u hu s1 s2 s3 s4 d1 d2 d3 d4 HN.out HY.out HF.out
    rw [HY.out] at this; exact this
  have CC0 := Lib.hid C0; have CC1 := Lib.hid C1; clear C0 C1
  have R := Blk.new w #[.int .i64 0, .int .i64 0, .bool false, .slice none 0 0, .slice none 0 0] 27
  have HB : Hid (Below w.heap.size w (w.alloc (.cells #[.int .i64 0, .int .i64 0, .bool false, .slice none 0 0, .slice none 0 0] 27))) := Lib.hid ((Below.refl w.heap.size w).alloc (by simp <;> omega) _)
  go_enter Try.func75, Try.ntmps75
  go_upto_region 1 with (fail)
  generalize (w.alloc (.cells #[.int .i64 0, .int .i64 0, .bool false, .slice none 0 0, .slice none 0 0] 27)) = u1 at *
  have G := hg.later HB.out
  have zr := R.lt; have zg := hg.lt; have zh := HB.out.size
  obtain ⟨Gc, Gf⟩ := G.open
  go_upto_region 2 with (fail)
  clear Gc Gf
  have BX := Blk.new u1 #[.int .i64 wm, .int .i64 hm, .bool wb, .slice none 0 0, .slice none 0 0] 27
  have q := below_new u1 (.cells #[.int .i64 wm, .int .i64 hm, .bool wb, .slice none 0 0, .slice none 0 0] 27)
  replace R := R.later q
  replace G := G.later q
  replace HB := Lib.hid (HB.out.trans (q.mono HB.out.size))
  clear q
  generalize u1.alloc (.cells #[.int .i64 wm, .int .i64 hm, .bool wb, .slice none 0 0, .slice none 0 0] 27) = u2 at *
  have zb : u1.heap.size < u2.heap.size := BX.lt
  obtain ⟨Gc, Gf⟩ := G.open
  go_wp2_with fail
  refine (CC0.out _ (ha.later HB.out)).mono ?_
  intro r u3 hgot
  obtain ⟨g0, c0, rfl, W0, gl0, gt0, q⟩ := gotL_some hgot (PL.out _); clear hgot
  have zq0 := q.size
  replace W0 := Lib.hid W0
  clear Gc Gf
  replace R := R.later q
  replace G := G.later q
  replace BX := BX.later q
  replace HB := Lib.hid (HB.out.trans (q.mono HB.out.size))
  clear q
  obtain ⟨BXc, BXf⟩ := BX.open
  go_upto_region 3 with (fail)
  clear BXc BXf
  have ot := out_set u3 u1.heap.size 3 (.slice (some ⟨g0, 0, none⟩) n c0)
  replace R := R.out ot (by omega)
  replace G := G.out ot (by omega)
  replace W0 := Lib.hid (W0.out.outside ot (lo := _) (hi := _) (fun x hx => by cases hx; exact ⟨Nat.le_refl g0, Nat.lt_succ_self g0⟩) (by omega))
  replace BX : Blk (u3.setCell ⟨u1.heap.size, 3, none⟩ (.slice (some ⟨g0, 0, none⟩) n c0)) u1.heap.size #[.int .i64 wm, .int .i64 hm, .bool wb, .slice (some ⟨g0, 0, none⟩) n c0, .slice none 0 0] 27 := BX.set 3 _
  replace HB := Lib.hid (HB.out.setCell (p := ⟨u1.heap.size, 3, none⟩) (by dsimp only; omega) (.slice (some ⟨g0, 0, none⟩) n c0))
  clear ot
  have ts4 : u3.heap.size ≤ (u3.setCell ⟨u1.heap.size, 3, none⟩ (.slice (some ⟨g0, 0, none⟩) n c0)).heap.size := by simp
  generalize u3.setCell ⟨u1.heap.size, 3, none⟩ (.slice (some ⟨g0, 0, none⟩) n c0) = u4 at *
  obtain ⟨Gc, Gf⟩ := G.open
  go_wp2_with fail
  refine (CC1.out _ (hb.later HB.out)).mono ?_
  intro r u5 hgot
  obtain ⟨g1, c1, rfl, W1, gl1, gt1, q⟩ := gotL_some hgot (PL.out _); clear hgot
  have zq1 := q.size
  replace W1 := Lib.hid W1
  clear Gc Gf
  replace R := R.later q
  replace G := G.later q
  replace BX := BX.later q
  replace W0 := Lib.hid (W0.out.later q)
  replace HB := Lib.hid (HB.out.trans (q.mono HB.out.size))
  clear q
  obtain ⟨BXc, BXf⟩ := BX.open
  go_upto_region 4 with (fail)
  clear BXc BXf
  have ot := out_set u5 u1.heap.size 4 (.slice (some ⟨g1, 0, none⟩) n c1)
  replace R := R.out ot (by omega)
  replace G := G.out ot (by omega)
  replace W0 := Lib.hid (W0.out.outside ot (lo := _) (hi := _) (fun x hx => by cases hx; exact ⟨Nat.le_refl g0, Nat.lt_succ_self g0⟩) (by omega))
  replace W1 := Lib.hid (W1.out.outside ot (lo := _) (hi := _) (fun x hx => by cases hx; exact ⟨Nat.le_refl g1, Nat.lt_succ_self g1⟩) (by omega))
  replace BX : Blk (u5.setCell ⟨u1.heap.size, 4, none⟩ (.slice (some ⟨g1, 0, none⟩) n c1)) u1.heap.size #[.int .i64 wm, .int .i64 hm, .bool wb, .slice (some ⟨g0, 0, none⟩) n c0, .slice (some ⟨g1, 0, none⟩) n c1] 27 := BX.set 4 _
  replace HB := Lib.hid (HB.out.setCell (p := ⟨u1.heap.size, 4, none⟩) (by dsimp only; omega) (.slice (some ⟨g1, 0, none⟩) n c1))
  clear ot
  have ts6 : u5.heap.size ≤ (u5.setCell ⟨u1.heap.size, 4, none⟩ (.slice (some ⟨g1, 0, none⟩) n c1)).heap.size := by simp
  generalize u5.setCell ⟨u1.heap.size, 4, none⟩ (.slice (some ⟨g1, 0, none⟩) n c1) = u6 at *
  obtain ⟨BXc, BXf⟩ := BX.open
  obtain ⟨Rc, Rf⟩ := R.open
  go_wp2
  refine bodyPost_ret (v := .agg #[.int .i64 wm, .int .i64 hm, .bool wb, .slice (some ⟨g0, 0, none⟩) n c0, .slice (some ⟨g1, 0, none⟩) n c1]) (by simp [results, Try.results75, go_sem, Rc]) rfl ⟨g0, g1, c0, c1, rfl, ((((((W0.out.lower (show w.heap.size ≤ _ by omega)).set (p := ⟨w.heap.size, 0, none⟩) (ne_block (h := w.heap.size) (by omega)) _).set (p := ⟨w.heap.size, 1, none⟩) (ne_block (h := w.heap.size) (by omega)) _).set (p := ⟨w.heap.size, 2, none⟩) (ne_block (h := w.heap.size) (by omega)) _).set (p := ⟨w.heap.size, 3, none⟩) (ne_block (h := w.heap.size) (by omega)) _).set (p := ⟨w.heap.size, 4, none⟩) (ne_block (h := w.heap.size) (by omega)) _), ((((((W1.out.lower (show w.heap.size ≤ _ by omega)).set (p := ⟨w.heap.size, 0, none⟩) (ne_block (h := w.heap.size) (by omega)) _).set (p := ⟨w.heap.size, 1, none⟩) (ne_block (h := w.heap.size) (by omega)) _).set (p := ⟨w.heap.size, 2, none⟩) (ne_block (h := w.heap.size) (by omega)) _).set (p := ⟨w.heap.size, 3, none⟩) (ne_block (h := w.heap.size) (by omega)) _).set (p := ⟨w.heap.size, 4, none⟩) (ne_block (h := w.heap.size) (by omega)) _), by omega, (((((HB.out.setCell (p := ⟨w.heap.size, 0, none⟩) (Nat.le_refl _) _).setCell (p := ⟨w.heap.size, 1, none⟩) (Nat.le_refl _) _).setCell (p := ⟨w.heap.size, 2, none⟩) (Nat.le_refl _) _).setCell (p := ⟨w.heap.size, 3, none⟩) (Nat.le_refl _) _).setCell (p := ⟨w.heap.size, 4, none⟩) (Nat.le_refl _) _)⟩

end Go.Proofs.Ytpnfgchifclhlaa
