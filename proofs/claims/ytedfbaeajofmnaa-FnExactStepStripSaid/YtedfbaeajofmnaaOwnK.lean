/- The model's own copy of a field, with its capacities. Conditions: none beyond those of each theorem. -/
import Derived.Test.YtedfbaeajofmnaaBu5
namespace Go.Proofs.Ytedfbaeajofmnaa
open Go Ieee Go.RowKit
set_option linter.unusedVariables false

theorem appendedK {w w1 : World} {n : Nat} {xs : List Nat} {v' : Value} (h0 : 0 < n) (hown : w1.ownsRow w.heap.size 102 1 v' (0 + n) ([] ++ fvals xs)) (hgrow : (w.alloc (.cells #[] 102)).grownBy w1 (Value.slice (some ⟨w.heap.size, 0, none⟩) 0 0).ownBlock) :
    ∃ g cap, v' = .slice (some ⟨g, 0, none⟩) n cap ∧ OwnV w1 w.heap.size (some ⟨g, 0, none⟩) (fvals xs) ∧ Below w.heap.size w w1 ∧ g < w1.heap.size ∧ n ≤ cap := by
  have ho2 : w1.ownsRow w.heap.size 102 1 v' n (fvals xs) := by simpa using hown
  obtain ⟨g, cap, hv, hcap⟩ : ∃ g cap, v' = .slice (some ⟨g, 0, none⟩) n cap ∧ n ≤ cap := by
    rcases ho2.2 with ⟨_, h⟩ | ⟨g, cap, cur, h, _, _, hle, _⟩
    · omega
    · exact ⟨g, cap, h, hle⟩
  rw [hv] at ho2
  have hO : OwnV w1 w.heap.size (some ⟨g, 0, none⟩) (fvals xs) := OwnV.of_owned ho2
  exact ⟨g, cap, hv, hO, ((Below.refl _ _).alloc (Nat.le_refl _) _).grown hgrow (by simp) (fun k hk => by simp [Value.ownBlock] at hk; omega), (hO.span _ rfl).2, hcap⟩

set_option maxHeartbeats 4000000 in
set_option maxRecDepth 100000 in
theorem specOwnK (gf p0 p1 p2 o0 o1 o2 c0 c1 c2 n : Nat) (e x y : List Nat) (w : World) (hg : Blk w gf #[.slice (some ⟨p0, o0, none⟩) e.length c0, .slice (some ⟨p1, o1, none⟩) x.length c1, .slice (some ⟨p2, o2, none⟩) y.length c2] 38) (h0 : RowV w (some ⟨p0, o0, none⟩) (fvals e)) (h1 : RowV w (some ⟨p1, o1, none⟩) (fvals x)) (h2 : RowV w (some ⟨p2, o2, none⟩) (fvals y)) (l0 : e.length = n) (l1 : x.length = n) (l2 : y.length = n) (hn : 0 < n) (hn2 : n ≤ 256) :
    Calls Try.prog 73 #[.pointer (some ⟨gf, 0, none⟩)] w fun r w' => ∃ g0 g1 g2 k0 k1 k2, r = .returned (.agg #[.slice (some ⟨g0, 0, none⟩) n k0, .slice (some ⟨g1, 0, none⟩) n k1, .slice (some ⟨g2, 0, none⟩) n k2]) ∧ OwnV w' w.heap.size (some ⟨g0, 0, none⟩) (fvals e) ∧ OwnV w' w.heap.size (some ⟨g1, 0, none⟩) (fvals x) ∧ OwnV w' w.heap.size (some ⟨g2, 0, none⟩) (fvals y) ∧ g0 < g1 ∧ g1 < g2 ∧ Below w.heap.size w w' ∧ n ≤ k0 ∧ n ≤ k1 ∧ n ≤ k2 := by
  obtain ⟨i0, hi, hz0, hz1, hz2⟩ := info_parts Try.infoF32
  have HI := Lib.hid hi; have HZ0 := Lib.hid hz0; have HZ1 := Lib.hid hz1; have HZ2 := Lib.hid hz2
  clear hi hz0 hz1 hz2
  have L0 := Lib.hid l0
  have L1 := Lib.hid l1
  have L2 := Lib.hid l2
  rw [l0, l1, l2] at hg
  clear l0 l1 l2
  have F := hg
  have R := Blk.new w #[.slice none 0 0, .slice none 0 0, .slice none 0 0] 38
  have HB : Hid (Below w.heap.size w (w.alloc (.cells #[.slice none 0 0, .slice none 0 0, .slice none 0 0] 38))) := Lib.hid ((Below.refl w.heap.size w).alloc (by simp <;> omega) _)
  go_enter Try.func73, Try.ntmps73
  go_upto_region 1 with (fail)
  generalize (w.alloc (.cells #[.slice none 0 0, .slice none 0 0, .slice none 0 0] 38)) = u1 at *
  replace F := hg.later HB.out
  have H0 := Lib.hid (h0.later HB.out)
  have H1 := Lib.hid (h1.later HB.out)
  have H2 := Lib.hid (h2.later HB.out)
  have zr := R.lt; have zf := hg.lt
  have lw0 := h0.low
  have lw1 := h1.low
  have lw2 := h2.low
  have F1 := F.alloc (.cells #[] 102)
  obtain ⟨f1c, f1f⟩ := F1.open
  go_upto_region 2 with (at_builtin; refine wpList_append_own _ rfl _ _ 22 rfl u1.heap.size 102 i0 (.float .f32 0) 1 4 Try.underlying22 HI.out HZ0.out HZ1.out HZ2.out rfl (by decide) (.slice (some ⟨u1.heap.size, 0, none⟩) 0 0) 0 [] rfl (World.ownsRow_made u1 _ 0 (Nat.le_refl _) (by decide) rfl) ⟨p0, o0, none⟩ n c0 (fvals e) rfl (by rw [fvals_length, L0.out, Nat.mul_one]) (row_news (H0.out.later (below_new _ _))) fvals_one (by unfold maxLen; omega) (by omega) (by simp) ?_; intro v' w0 hown hgrow _; obtain ⟨g0, k0, hv, W0, q, z0, kc0⟩ := appendedK hn hown hgrow; rw [hv]; clear hv hown hgrow)
  clear f1c f1f F1
  replace R := R.later q
  replace F := F.later q
  replace H0 := Lib.hid (H0.out.later q)
  replace H1 := Lib.hid (H1.out.later q)
  replace H2 := Lib.hid (H2.out.later q)
  replace HB := Lib.hid (HB.out.trans (q.mono HB.out.size))
  have sa := q.size; clear q
  have BX := Blk.new w0 #[.slice (some ⟨g0, 0, none⟩) n k0, .slice none 0 0, .slice none 0 0] 38
  have y0 := W0.bound g0 rfl
  replace W0 := Lib.hid W0
  have q := below_new w0 (.cells #[.slice (some ⟨g0, 0, none⟩) n k0, .slice none 0 0, .slice none 0 0] 38)
  replace R := R.later q
  replace F := F.later q
  replace H0 := Lib.hid (H0.out.later q)
  replace H1 := Lib.hid (H1.out.later q)
  replace H2 := Lib.hid (H2.out.later q)
  replace W0 := Lib.hid (W0.out.later q)
  replace HB := Lib.hid (HB.out.trans (q.mono HB.out.size))
  clear q
  generalize w0.alloc (.cells #[.slice (some ⟨g0, 0, none⟩) n k0, .slice none 0 0, .slice none 0 0] 38) = u2 at *
  have sb : w0.heap.size < u2.heap.size := BX.lt
  have F1 := F.alloc (.cells #[] 102)
  obtain ⟨f1c, f1f⟩ := F1.open
  go_upto_region 3 with (at_builtin; refine wpList_append_own _ rfl _ _ 22 rfl u2.heap.size 102 i0 (.float .f32 0) 1 4 Try.underlying22 HI.out HZ0.out HZ1.out HZ2.out rfl (by decide) (.slice (some ⟨u2.heap.size, 0, none⟩) 0 0) 0 [] rfl (World.ownsRow_made u2 _ 0 (Nat.le_refl _) (by decide) rfl) ⟨p1, o1, none⟩ n c1 (fvals x) rfl (by rw [fvals_length, L1.out, Nat.mul_one]) (row_news (H1.out.later (below_new _ _))) fvals_one (by unfold maxLen; omega) (by omega) (by simp) ?_; intro v' w1 hown hgrow _; obtain ⟨g1, k1, hv, W1, q, z1, kc1⟩ := appendedK hn hown hgrow; rw [hv]; clear hv hown hgrow; obtain ⟨bc, bf⟩ := (BX.later q).open)
  clear f1c f1f F1 bc bf
  replace R := R.later q
  replace F := F.later q
  replace BX := BX.later q
  replace H0 := Lib.hid (H0.out.later q)
  replace H1 := Lib.hid (H1.out.later q)
  replace H2 := Lib.hid (H2.out.later q)
  replace W0 := Lib.hid (W0.out.later q)
  replace HB := Lib.hid (HB.out.trans (q.mono HB.out.size))
  have s1 := q.size; clear q
  have y1 := W1.bound g1 rfl
  replace W1 := Lib.hid W1
  have ot := out_set w1 w0.heap.size 1 (.slice (some ⟨g1, 0, none⟩) n k1)
  replace F := F.out ot (by omega); replace R := R.out ot (by omega)
  replace H0 := Lib.hid (H0.out.outside ot lw0 (by omega))
  replace H1 := Lib.hid (H1.out.outside ot lw1 (by omega))
  replace H2 := Lib.hid (H2.out.outside ot lw2 (by omega))
  replace W0 := Lib.hid (W0.out.outside ot (lo := _) (hi := _) (fun x hx => by cases hx; exact ⟨Nat.le_refl g0, Nat.lt_succ_self g0⟩) (by omega))
  replace W1 := Lib.hid (W1.out.outside ot (lo := _) (hi := _) (fun x hx => by cases hx; exact ⟨Nat.le_refl g1, Nat.lt_succ_self g1⟩) (by omega))
  replace BX : Blk (w1.setCell ⟨w0.heap.size, 1, none⟩ (.slice (some ⟨g1, 0, none⟩) n k1)) w0.heap.size #[.slice (some ⟨g0, 0, none⟩) n k0, .slice (some ⟨g1, 0, none⟩) n k1, .slice none 0 0] 38 := BX.set 1 _
  replace HB := Lib.hid (HB.out.setCell (p := ⟨w0.heap.size, 1, none⟩) (by dsimp only; omega) (.slice (some ⟨g1, 0, none⟩) n k1))
  clear ot
  have t1 : w1.heap.size ≤ (w1.setCell ⟨w0.heap.size, 1, none⟩ (.slice (some ⟨g1, 0, none⟩) n k1)).heap.size := by simp
  generalize w1.setCell ⟨w0.heap.size, 1, none⟩ (.slice (some ⟨g1, 0, none⟩) n k1) = u3 at *
  have F1 := F.alloc (.cells #[] 102)
  obtain ⟨f1c, f1f⟩ := F1.open
  go_upto_region 4 with (at_builtin; refine wpList_append_own _ rfl _ _ 22 rfl u3.heap.size 102 i0 (.float .f32 0) 1 4 Try.underlying22 HI.out HZ0.out HZ1.out HZ2.out rfl (by decide) (.slice (some ⟨u3.heap.size, 0, none⟩) 0 0) 0 [] rfl (World.ownsRow_made u3 _ 0 (Nat.le_refl _) (by decide) rfl) ⟨p2, o2, none⟩ n c2 (fvals y) rfl (by rw [fvals_length, L2.out, Nat.mul_one]) (row_news (H2.out.later (below_new _ _))) fvals_one (by unfold maxLen; omega) (by omega) (by simp) ?_; intro v' w2 hown hgrow _; obtain ⟨g2, k2, hv, W2, q, z2, kc2⟩ := appendedK hn hown hgrow; rw [hv]; clear hv hown hgrow; obtain ⟨bc, bf⟩ := (BX.later q).open)
  clear f1c f1f F1 bc bf
  replace R := R.later q
  replace F := F.later q
  replace BX := BX.later q
  replace H0 := Lib.hid (H0.out.later q)
  replace H1 := Lib.hid (H1.out.later q)
  replace H2 := Lib.hid (H2.out.later q)
  replace W0 := Lib.hid (W0.out.later q)
  replace W1 := Lib.hid (W1.out.later q)
  replace HB := Lib.hid (HB.out.trans (q.mono HB.out.size))
  have s2 := q.size; clear q
  have y2 := W2.bound g2 rfl
  replace W2 := Lib.hid W2
  have ot := out_set w2 w0.heap.size 2 (.slice (some ⟨g2, 0, none⟩) n k2)
  replace F := F.out ot (by omega); replace R := R.out ot (by omega)
  replace H0 := Lib.hid (H0.out.outside ot lw0 (by omega))
  replace H1 := Lib.hid (H1.out.outside ot lw1 (by omega))
  replace H2 := Lib.hid (H2.out.outside ot lw2 (by omega))
  replace W0 := Lib.hid (W0.out.outside ot (lo := _) (hi := _) (fun x hx => by cases hx; exact ⟨Nat.le_refl g0, Nat.lt_succ_self g0⟩) (by omega))
  replace W1 := Lib.hid (W1.out.outside ot (lo := _) (hi := _) (fun x hx => by cases hx; exact ⟨Nat.le_refl g1, Nat.lt_succ_self g1⟩) (by omega))
  replace W2 := Lib.hid (W2.out.outside ot (lo := _) (hi := _) (fun x hx => by cases hx; exact ⟨Nat.le_refl g2, Nat.lt_succ_self g2⟩) (by omega))
  replace BX : Blk (w2.setCell ⟨w0.heap.size, 2, none⟩ (.slice (some ⟨g2, 0, none⟩) n k2)) w0.heap.size #[.slice (some ⟨g0, 0, none⟩) n k0, .slice (some ⟨g1, 0, none⟩) n k1, .slice (some ⟨g2, 0, none⟩) n k2] 38 := BX.set 2 _
  replace HB := Lib.hid (HB.out.setCell (p := ⟨w0.heap.size, 2, none⟩) (by dsimp only; omega) (.slice (some ⟨g2, 0, none⟩) n k2))
  clear ot
  have t2 : w2.heap.size ≤ (w2.setCell ⟨w0.heap.size, 2, none⟩ (.slice (some ⟨g2, 0, none⟩) n k2)).heap.size := by simp
  generalize w2.setCell ⟨w0.heap.size, 2, none⟩ (.slice (some ⟨g2, 0, none⟩) n k2) = u4 at *
  obtain ⟨bc, bf⟩ := BX.open; obtain ⟨Rc, Rf⟩ := R.open
  go_wp2
  refine bodyPost_ret (v := .agg #[.slice (some ⟨g0, 0, none⟩) n k0, .slice (some ⟨g1, 0, none⟩) n k1, .slice (some ⟨g2, 0, none⟩) n k2]) (by simp [results, Try.results73, go_sem, Rc]) rfl ⟨g0, g1, g2, k0, k1, k2, rfl, ((((W0.out.lower (show w.heap.size ≤ _ by omega)).set (p := ⟨w.heap.size, 0, none⟩) (ne_block (h := w.heap.size) (by omega)) _).set (p := ⟨w.heap.size, 1, none⟩) (ne_block (h := w.heap.size) (by omega)) _).set (p := ⟨w.heap.size, 2, none⟩) (ne_block (h := w.heap.size) (by omega)) _), ((((W1.out.lower (show w.heap.size ≤ _ by omega)).set (p := ⟨w.heap.size, 0, none⟩) (ne_block (h := w.heap.size) (by omega)) _).set (p := ⟨w.heap.size, 1, none⟩) (ne_block (h := w.heap.size) (by omega)) _).set (p := ⟨w.heap.size, 2, none⟩) (ne_block (h := w.heap.size) (by omega)) _), ((((W2.out.lower (show w.heap.size ≤ _ by omega)).set (p := ⟨w.heap.size, 0, none⟩) (ne_block (h := w.heap.size) (by omega)) _).set (p := ⟨w.heap.size, 1, none⟩) (ne_block (h := w.heap.size) (by omega)) _).set (p := ⟨w.heap.size, 2, none⟩) (ne_block (h := w.heap.size) (by omega)) _), by omega, by omega, (((HB.out.setCell (p := ⟨w.heap.size, 0, none⟩) (Nat.le_refl _) _).setCell (p := ⟨w.heap.size, 1, none⟩) (Nat.le_refl _) _).setCell (p := ⟨w.heap.size, 2, none⟩) (Nat.le_refl _) _), kc0, kc1, kc2⟩

end Go.Proofs.Ytedfbaeajofmnaa
