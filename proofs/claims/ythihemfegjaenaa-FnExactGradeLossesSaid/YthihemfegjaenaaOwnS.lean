/- The model's own copy of a sheet. Conditions: none beyond those of each theorem. -/
import Derived.Test.YthihemfegjaenaaBu5
namespace Go.Proofs.Ythihemfegjaenaa
open Go Ieee Go.RowKit
set_option linter.unusedVariables false

set_option maxHeartbeats 4000000 in
set_option maxRecDepth 100000 in
theorem specOwnS (gs p0 p1 o0 o1 c0 c1 n : Nat) (wd hi : Int) (wb : Bool) (xs ys : List Nat) (w : World) (hg : Blk w gs #[.int .i64 wd, .int .i64 hi, .bool wb, .slice (some ⟨p0, o0, none⟩) n c0, .slice (some ⟨p1, o1, none⟩) n c1] 29) (h0 : RowV w (some ⟨p0, o0, none⟩) (fvals xs)) (h1 : RowV w (some ⟨p1, o1, none⟩) (fvals ys)) (l0 : xs.length = n) (l1 : ys.length = n) (hn : 0 < n) (hn2 : n ≤ 256) :
    Calls Try.prog 64 #[.pointer (some ⟨gs, 0, none⟩)] w fun r w' => ∃ g0 g1 k0 k1, r = .returned (.agg #[.int .i64 wd, .int .i64 hi, .bool wb, .slice (some ⟨g0, 0, none⟩) n k0, .slice (some ⟨g1, 0, none⟩) n k1]) ∧ OwnV w' w.heap.size (some ⟨g0, 0, none⟩) (fvals xs) ∧ OwnV w' w.heap.size (some ⟨g1, 0, none⟩) (fvals ys) ∧ g0 < g1 ∧ Below w.heap.size w w' := by
  obtain ⟨i0, hi0, hz0, hz1, hz2⟩ := info_parts Try.infoF32
  have HI := Lib.hid hi0; have HZ0 := Lib.hid hz0; have HZ1 := Lib.hid hz1; have HZ2 := Lib.hid hz2
  clear hi0 hz0 hz1 hz2
  have L0 := Lib.hid l0
  have L1 := Lib.hid l1
  clear l0 l1
  have F := hg
  have R := Blk.new w #[.int .i64 0, .int .i64 0, .bool false, .slice none 0 0, .slice none 0 0] 29
  have HB : Hid (Below w.heap.size w (w.alloc (.cells #[.int .i64 0, .int .i64 0, .bool false, .slice none 0 0, .slice none 0 0] 29))) := Lib.hid ((Below.refl w.heap.size w).alloc (by simp <;> omega) _)
  go_enter Try.func64, Try.ntmps64
  go_upto_region 1 with (fail)
  generalize (w.alloc (.cells #[.int .i64 0, .int .i64 0, .bool false, .slice none 0 0, .slice none 0 0] 29)) = u1 at *
  replace F := hg.later HB.out
  have H0 := Lib.hid (h0.later HB.out)
  have H1 := Lib.hid (h1.later HB.out)
  have zr := R.lt; have zf := hg.lt
  have lw0 := h0.low
  have lw1 := h1.low
  obtain ⟨Fc, Ff⟩ := F.open
  go_upto_region 2 with (fail)
  clear Fc Ff
  have BX := Blk.new u1 #[.int .i64 wd, .int .i64 hi, .bool wb, .slice (some ⟨p0, o0, none⟩) n c0, .slice (some ⟨p1, o1, none⟩) n c1] 29
  have q := below_new u1 (.cells #[.int .i64 wd, .int .i64 hi, .bool wb, .slice (some ⟨p0, o0, none⟩) n c0, .slice (some ⟨p1, o1, none⟩) n c1] 29)
  replace R := R.later q
  replace F := F.later q
  replace H0 := Lib.hid (H0.out.later q)
  replace H1 := Lib.hid (H1.out.later q)
  replace HB := Lib.hid (HB.out.trans (q.mono HB.out.size))
  clear q
  obtain ⟨gx, hgx⟩ : ∃ gx, gx = u1.heap.size := ⟨_, rfl⟩
  rw [← hgx] at BX
  (try simp only [← hgx])
  generalize u1.alloc (.cells #[.int .i64 wd, .int .i64 hi, .bool wb, .slice (some ⟨p0, o0, none⟩) n c0, .slice (some ⟨p1, o1, none⟩) n c1] 29) = v0 at *
  have zx := BX.lt
  have zgx : w.heap.size < gx := by omega
  clear hgx
  have F1 := F.alloc (.cells #[] 36)
  obtain ⟨f1c, f1f⟩ := F1.open
  go_upto_region 3 with (at_builtin; refine wpList_append_own _ rfl _ _ 22 rfl v0.heap.size 36 i0 (.float .f32 0) 1 4 Try.underlying22 HI.out HZ0.out HZ1.out HZ2.out rfl (by decide) (.slice (some ⟨v0.heap.size, 0, none⟩) 0 0) 0 [] rfl (World.ownsRow_made v0 _ 0 (Nat.le_refl _) (by decide) rfl) ⟨p0, o0, none⟩ n c0 (fvals xs) rfl (by rw [fvals_length, L0.out, Nat.mul_one]) (row_news (H0.out.later (below_new _ _))) fvals_one (by unfold maxLen; omega) (by omega) (by simp) ?_; intro v' w0 hown hgrow _; obtain ⟨g0, k0, hv, W0, q, z0⟩ := appended hn hown hgrow; rw [hv]; clear hv hown hgrow; obtain ⟨bc, bf⟩ := (BX.later q).open)
  clear f1c f1f F1 bc bf
  replace R := R.later q
  replace F := F.later q
  replace BX := BX.later q
  replace H0 := Lib.hid (H0.out.later q)
  replace H1 := Lib.hid (H1.out.later q)
  replace HB := Lib.hid (HB.out.trans (q.mono HB.out.size))
  have s0 := q.size; clear q
  have y0 := W0.bound g0 rfl
  replace W0 := Lib.hid W0
  have ot := out_set w0 gx 3 (.slice (some ⟨g0, 0, none⟩) n k0)
  replace F := F.out ot (by omega); replace R := R.out ot (by omega)
  replace H0 := Lib.hid (H0.out.outside ot lw0 (by omega))
  replace H1 := Lib.hid (H1.out.outside ot lw1 (by omega))
  replace W0 := Lib.hid (W0.out.outside ot (lo := _) (hi := _) (fun x hx => by cases hx; exact ⟨Nat.le_refl g0, Nat.lt_succ_self g0⟩) (by omega))
  replace BX : Blk (w0.setCell ⟨gx, 3, none⟩ (.slice (some ⟨g0, 0, none⟩) n k0)) gx #[.int .i64 wd, .int .i64 hi, .bool wb, .slice (some ⟨g0, 0, none⟩) n k0, .slice (some ⟨p1, o1, none⟩) n c1] 29 := BX.set 3 _
  replace HB := Lib.hid (HB.out.setCell (p := ⟨gx, 3, none⟩) (by dsimp only; omega) (.slice (some ⟨g0, 0, none⟩) n k0))
  clear ot
  have t0 : w0.heap.size ≤ (w0.setCell ⟨gx, 3, none⟩ (.slice (some ⟨g0, 0, none⟩) n k0)).heap.size := by simp
  generalize w0.setCell ⟨gx, 3, none⟩ (.slice (some ⟨g0, 0, none⟩) n k0) = v1 at *
  have F1 := F.alloc (.cells #[] 36)
  obtain ⟨f1c, f1f⟩ := F1.open
  go_upto_region 4 with (at_builtin; refine wpList_append_own _ rfl _ _ 22 rfl v1.heap.size 36 i0 (.float .f32 0) 1 4 Try.underlying22 HI.out HZ0.out HZ1.out HZ2.out rfl (by decide) (.slice (some ⟨v1.heap.size, 0, none⟩) 0 0) 0 [] rfl (World.ownsRow_made v1 _ 0 (Nat.le_refl _) (by decide) rfl) ⟨p1, o1, none⟩ n c1 (fvals ys) rfl (by rw [fvals_length, L1.out, Nat.mul_one]) (row_news (H1.out.later (below_new _ _))) fvals_one (by unfold maxLen; omega) (by omega) (by simp) ?_; intro v' w1 hown hgrow _; obtain ⟨g1, k1, hv, W1, q, z1⟩ := appended hn hown hgrow; rw [hv]; clear hv hown hgrow; obtain ⟨bc, bf⟩ := (BX.later q).open)
  clear f1c f1f F1 bc bf
  replace R := R.later q
  replace F := F.later q
  replace BX := BX.later q
  replace H0 := Lib.hid (H0.out.later q)
  replace H1 := Lib.hid (H1.out.later q)
  replace W0 := Lib.hid (W0.out.later q)
  replace HB := Lib.hid (HB.out.trans (q.mono HB.out.size))
  have s1 := q.size; clear q
  have y1 := W1.bound g1 rfl
  replace W1 := Lib.hid W1
  have ot := out_set w1 gx 4 (.slice (some ⟨g1, 0, none⟩) n k1)
  replace F := F.out ot (by omega); replace R := R.out ot (by omega)
  replace H0 := Lib.hid (H0.out.outside ot lw0 (by omega))
  replace H1 := Lib.hid (H1.out.outside ot lw1 (by omega))
  replace W0 := Lib.hid (W0.out.outside ot (lo := _) (hi := _) (fun x hx => by cases hx; exact ⟨Nat.le_refl g0, Nat.lt_succ_self g0⟩) (by omega))
  replace W1 := Lib.hid (W1.out.outside ot (lo := _) (hi := _) (fun x hx => by cases hx; exact ⟨Nat.le_refl g1, Nat.lt_succ_self g1⟩) (by omega))
  replace BX : Blk (w1.setCell ⟨gx, 4, none⟩ (.slice (some ⟨g1, 0, none⟩) n k1)) gx #[.int .i64 wd, .int .i64 hi, .bool wb, .slice (some ⟨g0, 0, none⟩) n k0, .slice (some ⟨g1, 0, none⟩) n k1] 29 := BX.set 4 _
  replace HB := Lib.hid (HB.out.setCell (p := ⟨gx, 4, none⟩) (by dsimp only; omega) (.slice (some ⟨g1, 0, none⟩) n k1))
  clear ot
  have t1 : w1.heap.size ≤ (w1.setCell ⟨gx, 4, none⟩ (.slice (some ⟨g1, 0, none⟩) n k1)).heap.size := by simp
  generalize w1.setCell ⟨gx, 4, none⟩ (.slice (some ⟨g1, 0, none⟩) n k1) = v2 at *
  obtain ⟨bc, bf⟩ := BX.open; obtain ⟨Rc, Rf⟩ := R.open
  go_wp2
  refine bodyPost_ret (v := .agg #[.int .i64 wd, .int .i64 hi, .bool wb, .slice (some ⟨g0, 0, none⟩) n k0, .slice (some ⟨g1, 0, none⟩) n k1]) (by simp [results, Try.results64, go_sem, Rc]) rfl ⟨g0, g1, k0, k1, rfl, ((((((W0.out.lower (show w.heap.size ≤ _ by omega)).set (p := ⟨w.heap.size, 0, none⟩) (ne_block (h := w.heap.size) (by omega)) _).set (p := ⟨w.heap.size, 1, none⟩) (ne_block (h := w.heap.size) (by omega)) _).set (p := ⟨w.heap.size, 2, none⟩) (ne_block (h := w.heap.size) (by omega)) _).set (p := ⟨w.heap.size, 3, none⟩) (ne_block (h := w.heap.size) (by omega)) _).set (p := ⟨w.heap.size, 4, none⟩) (ne_block (h := w.heap.size) (by omega)) _), ((((((W1.out.lower (show w.heap.size ≤ _ by omega)).set (p := ⟨w.heap.size, 0, none⟩) (ne_block (h := w.heap.size) (by omega)) _).set (p := ⟨w.heap.size, 1, none⟩) (ne_block (h := w.heap.size) (by omega)) _).set (p := ⟨w.heap.size, 2, none⟩) (ne_block (h := w.heap.size) (by omega)) _).set (p := ⟨w.heap.size, 3, none⟩) (ne_block (h := w.heap.size) (by omega)) _).set (p := ⟨w.heap.size, 4, none⟩) (ne_block (h := w.heap.size) (by omega)) _), by omega, (((((HB.out.setCell (p := ⟨w.heap.size, 0, none⟩) (Nat.le_refl _) _).setCell (p := ⟨w.heap.size, 1, none⟩) (Nat.le_refl _) _).setCell (p := ⟨w.heap.size, 2, none⟩) (Nat.le_refl _) _).setCell (p := ⟨w.heap.size, 3, none⟩) (Nat.le_refl _) _).setCell (p := ⟨w.heap.size, 4, none⟩) (Nat.le_refl _) _)⟩

end Go.Proofs.Ythihemfegjaenaa
