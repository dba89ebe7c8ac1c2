/- Several texts in one: facts on floats, lists, memory and the functions that the theorems beside this text use. Conditions: none beyond those of each theorem. -/
import Derived.Test.YtedfbaeajofmnaaBu4
import Derived.Test.YtedfbaeajofmnaaBu2
import Derived.WalkSpells

set_option linter.unusedVariables false

section

namespace Go.Proofs.Ytedfbaeajofmnaa
open Go Ieee Go.RowKit
set_option linter.unusedVariables false

def cellB (wd hi x y : Int) : Bool := decide (0 ≤ x ∧ x ≤ wd - 1) && decide (0 ≤ y ∧ y ≤ hi - 1)

theorem cell_in {wd hi x y : Int} (h : cellB wd hi x y = true) : 0 ≤ x ∧ x < wd ∧ 0 ≤ y ∧ y < hi := by
  unfold cellB at h
  simp only [Bool.and_eq_true, decide_eq_true_eq] at h
  omega

theorem index_in {wd hi x y : Int} (h : cellB wd hi x y = true) (h2 : wd * hi ≤ 256) : 0 ≤ wd * y ∧ 0 ≤ x + wd * y ∧ x + wd * y < wd * hi ∧ wd * y ≤ 256 := by
  obtain ⟨a, b, c, d⟩ := cell_in h
  have e : 0 ≤ wd * y := Int.mul_nonneg (by omega) c
  have f : wd * (y + 1) ≤ wd * hi := Int.mul_le_mul_of_nonneg_left (by omega) (by omega)
  rw [Int.mul_add, Int.mul_one] at f
  omega

theorem implHas (wd hi x y : Int) (wb : Bool) (w : World) (s1 : 3 ≤ wd) (s2 : wd ≤ 16) (s3 : 3 ≤ hi) (s4 : hi ≤ 16) : Calls Try.prog 149 #[.agg #[.int .i64 wd, .int .i64 hi, .bool wb], .agg #[.int .i64 x, .int .i64 y]] w fun e w' => e = .returned (.bool (cellB wd hi x y)) ∧ Below w.heap.size w w' := by
  have B := ((Below.refl w.heap.size w).alloc (Nat.le_refl _) (.cells #[.int .i64 wd, .int .i64 hi, .bool wb] 80)).alloc (by simp) (.cells #[.int .i64 x, .int .i64 y] 134)
  have HB := Lib.hid B; clear B
  by_cases k0 : 0 ≤ x
  · skip
    by_cases k1 : x < wd
    · skip
      by_cases k2 : 0 ≤ y
      · skip
        by_cases k3 : y < hi
        · skip
          have HC : Hid (cellB wd hi x y = true) := Lib.hid (by unfold cellB; rw [decide_eq_true (by omega), decide_eq_true (by omega)]; rfl)
          have d0 : decide (0 ≤ x) = true := decide_eq_true k0
          have d1 : decide (x < wd) = true := decide_eq_true k1
          have d2 : decide (0 ≤ y) = true := decide_eq_true k2
          have d3 : decide (y < hi) = true := decide_eq_true k3
          clear k0 k1 k2 k3
          go_enter Try.func149, Try.ntmps149
          go_wp2
          go_ret
          exact ⟨by rw [HC.out]; rfl, HB.out⟩
        · skip
          have HC : Hid (cellB wd hi x y = false) := Lib.hid (by unfold cellB; rw [decide_eq_false (p := 0 ≤ y ∧ y ≤ hi - 1) (by omega), Bool.and_false])
          have d0 : decide (0 ≤ x) = true := decide_eq_true k0
          have d1 : decide (x < wd) = true := decide_eq_true k1
          have d2 : decide (0 ≤ y) = true := decide_eq_true k2
          have d3 : decide (y < hi) = false := decide_eq_false k3
          clear k0 k1 k2 k3
          go_enter Try.func149, Try.ntmps149
          go_wp2
          go_ret
          exact ⟨by rw [HC.out]; rfl, HB.out⟩
      · skip
        have HC : Hid (cellB wd hi x y = false) := Lib.hid (by unfold cellB; rw [decide_eq_false (p := 0 ≤ y ∧ y ≤ hi - 1) (by omega), Bool.and_false])
        have d0 : decide (0 ≤ x) = true := decide_eq_true k0
        have d1 : decide (x < wd) = true := decide_eq_true k1
        have d2 : decide (0 ≤ y) = false := decide_eq_false k2
        clear k0 k1 k2
        go_enter Try.func149, Try.ntmps149
        go_wp2
        go_ret
        exact ⟨by rw [HC.out]; rfl, HB.out⟩
    · skip
      have HC : Hid (cellB wd hi x y = false) := Lib.hid (by unfold cellB; rw [decide_eq_false (by omega)]; rfl)
      have d0 : decide (0 ≤ x) = true := decide_eq_true k0
      have d1 : decide (x < wd) = false := decide_eq_false k1
      clear k0 k1
      go_enter Try.func149, Try.ntmps149
      go_wp2
      go_ret
      exact ⟨by rw [HC.out]; rfl, HB.out⟩
  · skip
    have HC : Hid (cellB wd hi x y = false) := Lib.hid (by unfold cellB; rw [decide_eq_false (by omega)]; rfl)
    have d0 : decide (0 ≤ x) = false := decide_eq_false k0
    clear k0
    go_enter Try.func149, Try.ntmps149
    go_wp2
    go_ret
    exact ⟨by rw [HC.out]; rfl, HB.out⟩

theorem implIndexOf (wd hi x y : Int) (wb : Bool) (w : World) (k1 : 0 ≤ wd * y) (k2 : wd * y ≤ 256) (k3 : 0 ≤ x) (k4 : x ≤ 256) : Calls Try.prog 117 #[.agg #[.int .i64 wd, .int .i64 hi, .bool wb], .agg #[.int .i64 x, .int .i64 y]] w fun e w' => e = .returned (.int .i64 (x + wd * y)) ∧ Below w.heap.size w w' := by
  have B := ((Below.refl w.heap.size w).alloc (Nat.le_refl _) (.cells #[.int .i64 wd, .int .i64 hi, .bool wb] 80)).alloc (by simp) (.cells #[.int .i64 x, .int .i64 y] 134)
  have HB := Lib.hid B; clear B
  go_enter Try.func117, Try.ntmps117
  go_wp2
  go_ret
  exact ⟨rfl, HB.out⟩

end Go.Proofs.Ytedfbaeajofmnaa

end

section

namespace Go.Proofs.Ytedfbaeajofmnaa
open Go Ieee Go.RowKit
set_option linter.unusedVariables false

theorem make_f32s (n : Nat) (hn : n ≤ 1048576) (w : World) : (Instr.makeSlice 22 (.int .i64 (n : Int)) (.int .i64 (n : Int))).run Try.prog w = .ok (.slice (some ⟨w.heap.size, 0, none⟩) n n) (w.alloc (.cells (List.replicate n (Value.float .f32 0)).toArray 102)) := by
  obtain ⟨i0, hi, hz0, hz1, hz2⟩ := info_parts Try.infoF32
  have := run_make (P := Try.prog) w 22 102 i0 (.float .f32 0) Try.underlying22 hi hz0 .i64 .i64 n n (by omega) (Int.le_refl _) (by rw [hz2]; omega) (by omega)
  rw [this, hz1, Nat.mul_one, Int.toNat_natCast]
  have e : madeCells (Value.float FloatKind.f32 0).cells n = (List.replicate n (Value.float .f32 0)).toArray := by
    apply Array.toList_inj.1
    rw [show (Value.float FloatKind.f32 0).cells = #[.float .f32 0] from rfl, toList_madeCells_one]
  rw [e]

theorem fvals_zeros (n : Nat) : fvals (List.replicate n 0) = List.replicate n (Value.float .f32 0) := by unfold fvals; rw [List.map_replicate]

theorem own_zeros (w : World) (n : Nat) (t : TypeId) : OwnV (w.alloc (.cells (List.replicate n (Value.float .f32 0)).toArray t)) w.heap.size (some ⟨w.heap.size, 0, none⟩) (fvals (List.replicate n 0)) :=
  .inr ⟨_, _, t, rfl, Nat.le_refl _, Blk.new w _ t, fun i u h => by rw [fvals_zeros] at h; rw [List.getElem?_toArray]; exact h⟩

theorem is_zeros {n : Nat} (h : n ≤ 256) : Is (List.replicate n 0) (List.replicate n (some 0)) :=
  ⟨(by unfold cl; rw [List.map_replicate]; rfl), (fun y hy => by rw [List.eq_of_mem_replicate hy]; decide), (by simpa using h)⟩

theorem zeros3 (S : World) (n : Nat) (t : TypeId) (B k : Nat) (hk : S.heap.size = k) (hB : B ≤ k) :
    OwnV (((S.alloc (.cells (Array.replicate n (Value.float .f32 0)) t)).alloc (.cells (Array.replicate n (Value.float .f32 0)) t)).alloc (.cells (Array.replicate n (Value.float .f32 0)) t)).drew B (some ⟨k, 0, none⟩) (fvals (List.replicate n 0)) ∧
    OwnV (((S.alloc (.cells (Array.replicate n (Value.float .f32 0)) t)).alloc (.cells (Array.replicate n (Value.float .f32 0)) t)).alloc (.cells (Array.replicate n (Value.float .f32 0)) t)).drew B (some ⟨k + 1, 0, none⟩) (fvals (List.replicate n 0)) ∧
    OwnV (((S.alloc (.cells (Array.replicate n (Value.float .f32 0)) t)).alloc (.cells (Array.replicate n (Value.float .f32 0)) t)).alloc (.cells (Array.replicate n (Value.float .f32 0)) t)).drew B (some ⟨k + 1 + 1, 0, none⟩) (fvals (List.replicate n 0)) := by
  subst hk
  have g : ∀ (i : Nat) (u : Value), (fvals (List.replicate n 0))[i]? = some u → (Array.replicate n (Value.float .f32 0))[i]? = some u := fun i u h => by
    rw [fvals_zeros] at h
    rw [← Array.getElem?_toList, Array.toList_replicate]; exact h
  exact ⟨.inr ⟨_, _, t, rfl, hB, ((Blk.new S _ t).alloc _).alloc _, g⟩, .inr ⟨_, _, t, rfl, Nat.le_trans hB (Nat.le_add_right _ _), (Blk.new1 S _ _ t).alloc _, g⟩, .inr ⟨_, _, t, rfl, Nat.le_trans hB (Nat.le_trans (Nat.le_add_right _ _) (Nat.le_add_right _ _)), Blk.new2 S _ _ _ t, g⟩⟩

def zeroM (wd hi : Int) (xs ys : List Nat) : List (Option Nat) := if validB wd hi xs ys then List.replicate (wd * hi).toNat (some 0) else []

end Go.Proofs.Ytedfbaeajofmnaa

end

section

namespace Go.Proofs.Ytedfbaeajofmnaa
open Go Ieee Go.RowKit
set_option linter.unusedVariables false

end Go.Proofs.Ytedfbaeajofmnaa

end

section

namespace Go.Proofs.Ytedfbaeajofmnaa
open Go Ieee Go.RowKit
set_option linter.unusedVariables false

theorem row_news {w : World} {b off : Nat} {vs : List Value} (h : RowV w (some ⟨b, off, none⟩) vs) : ∀ j u, vs[j]? = some u → w.cell? ((⟨b, off, none⟩ : Addr).add j) = some u := by
  intro j u hu
  obtain ⟨b', o', e, hc⟩ := h j u hu
  injection e with e
  injection e with e1 e2 _
  subst e1; subst e2
  by_cases hj : j = 0
  · subst hj; simpa [Addr.add] using hc
  · simpa [Addr.add, hj] using hc

theorem fvals_one {xs : List Nat} : ∀ u ∈ fvals xs, u.oneCell' = true := fun u hu => by
  unfold fvals at hu
  obtain ⟨x, _, rfl⟩ := List.mem_map.1 hu
  rfl

set_option maxRecDepth 100000 in
theorem implClone (b off c : Nat) (xs : List Nat) (w : World) (hr : RowV w (some ⟨b, off, none⟩) (fvals xs)) (h0 : 0 < xs.length) (hn : xs.length ≤ 1048576) : Calls Try.prog 141 #[.slice (some ⟨b, off, none⟩) xs.length c] w fun e w' => ∃ g c', e = .returned (.slice (some ⟨g, 0, none⟩) xs.length c') ∧ OwnV w' w.heap.size (some ⟨g, 0, none⟩) (fvals xs) ∧ Below w.heap.size w w' := by
  obtain ⟨i0, hi, hz0, hz1, hz2⟩ := info_parts Try.infoF32
  have HI := Lib.hid hi; have HZ0 := Lib.hid hz0; have HZ1 := Lib.hid hz1; have HZ2 := Lib.hid hz2
  clear hi hz0 hz1 hz2
  generalize hlen : xs.length = n at *
  have HL := Lib.hid hlen; clear hlen
  have hnil := fun (w : World) => Lib.run_eql_slice_nil (P := Try.prog) w 22 102 (some ⟨b, off, none⟩) n c 0 0 Try.underlying22
  skip
  go_enter Try.func141, Try.ntmps141
  go_wp2_with (at_builtin; refine wpList_append_own _ rfl _ _ 22 rfl w.heap.size 102 i0 (.float .f32 0) 1 4 Try.underlying22 HI.out HZ0.out HZ1.out HZ2.out rfl (by decide) (.slice (some ⟨w.heap.size, 0, none⟩) 0 0) 0 [] rfl (World.ownsRow_made w _ 0 (Nat.le_refl _) (by decide) rfl) ⟨b, off, none⟩ n c (fvals xs) rfl (by rw [fvals_length, HL.out, Nat.mul_one]) (row_news (hr.later (below_new _ _))) fvals_one (by unfold maxLen; omega) (by omega) (by simp) ?_; intro v' w1 hown hgrow _)
  have ho2 : w1.ownsRow w.heap.size 102 1 v' n (fvals xs) := by simpa using hown
  obtain ⟨g, cap, hv⟩ : ∃ g cap, v' = .slice (some ⟨g, 0, none⟩) n cap := by
    rcases ho2.2 with ⟨_, h⟩ | ⟨g, cap, cur, h, _⟩
    · omega
    · exact ⟨g, cap, h⟩
  rw [hv] at ho2
  go_ret
  exact ⟨g, cap, by rw [← hv]; rfl, OwnV.of_owned ho2, ((Below.refl _ _).alloc (Nat.le_refl _) _).grown hgrow (by simp) (fun k hk => by simp [Value.ownBlock] at hk; omega)⟩

end Go.Proofs.Ytedfbaeajofmnaa

end

section

namespace Go.Proofs.Ytedfbaeajofmnaa
open Go Ieee Go.RowKit
set_option linter.unusedVariables false

theorem appended {w w1 : World} {n : Nat} {xs : List Nat} {v' : Value} (h0 : 0 < n) (hown : w1.ownsRow w.heap.size 102 1 v' (0 + n) ([] ++ fvals xs)) (hgrow : (w.alloc (.cells #[] 102)).grownBy w1 (Value.slice (some ⟨w.heap.size, 0, none⟩) 0 0).ownBlock) :
    ∃ g cap, v' = .slice (some ⟨g, 0, none⟩) n cap ∧ OwnV w1 w.heap.size (some ⟨g, 0, none⟩) (fvals xs) ∧ Below w.heap.size w w1 ∧ g < w1.heap.size := by
  have ho2 : w1.ownsRow w.heap.size 102 1 v' n (fvals xs) := by simpa using hown
  obtain ⟨g, cap, hv⟩ : ∃ g cap, v' = .slice (some ⟨g, 0, none⟩) n cap := by
    rcases ho2.2 with ⟨_, h⟩ | ⟨g, cap, cur, h, _⟩
    · omega
    · exact ⟨g, cap, h⟩
  rw [hv] at ho2
  have hO : OwnV w1 w.heap.size (some ⟨g, 0, none⟩) (fvals xs) := OwnV.of_owned ho2
  exact ⟨g, cap, hv, hO, ((Below.refl _ _).alloc (Nat.le_refl _) _).grown hgrow (by simp) (fun k hk => by simp [Value.ownBlock] at hk; omega), (hO.span _ rfl).2⟩

theorem out_set (u : World) (g i : Nat) (v : Value) : Out u (u.setCell ⟨g, i, none⟩ v) g (g + 1) :=
  ⟨by simp, fun j _ hd => heap_setCell_other u ⟨g, i, none⟩ j v (by dsimp only; omega)⟩

set_option maxHeartbeats 4000000 in
set_option maxRecDepth 100000 in
theorem specOwn (gf p0 p1 p2 o0 o1 o2 c0 c1 c2 n : Nat) (e x y : List Nat) (w : World) (hg : Blk w gf #[.slice (some ⟨p0, o0, none⟩) e.length c0, .slice (some ⟨p1, o1, none⟩) x.length c1, .slice (some ⟨p2, o2, none⟩) y.length c2] 38) (h0 : RowV w (some ⟨p0, o0, none⟩) (fvals e)) (h1 : RowV w (some ⟨p1, o1, none⟩) (fvals x)) (h2 : RowV w (some ⟨p2, o2, none⟩) (fvals y)) (l0 : e.length = n) (l1 : x.length = n) (l2 : y.length = n) (hn : 0 < n) (hn2 : n ≤ 256) :
    Calls Try.prog 73 #[.pointer (some ⟨gf, 0, none⟩)] w fun r w' => ∃ g0 g1 g2 k0 k1 k2, r = .returned (.agg #[.slice (some ⟨g0, 0, none⟩) n k0, .slice (some ⟨g1, 0, none⟩) n k1, .slice (some ⟨g2, 0, none⟩) n k2]) ∧ OwnV w' w.heap.size (some ⟨g0, 0, none⟩) (fvals e) ∧ OwnV w' w.heap.size (some ⟨g1, 0, none⟩) (fvals x) ∧ OwnV w' w.heap.size (some ⟨g2, 0, none⟩) (fvals y) ∧ g0 < g1 ∧ g1 < g2 ∧ Below w.heap.size w w' := by
  obtain ⟨i0, hi, hz0, hz1, hz2⟩ := info_parts Try.infoF32
  have HI := Lib.hid hi; have HZ0 := Lib.hid hz0; have HZ1 := Lib.hid hz1; have HZ2 := Lib.hid hz2
  clear hi hz0 hz1 hz2
  have L0 := Lib.hid l0
  have L1 := Lib.hid l1
  have L2 := Lib.hid l2
  rw [l0, l1, l2] at hg
  clear l0 l1 l2
  have F := hg
  have R := Blk.new w #[.slice none 0 0, .slice none 0 0, .slice none 0 0] 38
  have HB : Hid (Below w.heap.size w (w.alloc (.cells #[.slice none 0 0, .slice none 0 0, .slice none 0 0] 38))) := Lib.hid ((Below.refl w.heap.size w).alloc (by simp <;> omega) _)
  go_enter Try.func73, Try.ntmps73
  go_upto_region 1 with (fail)
  generalize (w.alloc (.cells #[.slice none 0 0, .slice none 0 0, .slice none 0 0] 38)) = u1 at *
  replace F := hg.later HB.out
  have H0 := Lib.hid (h0.later HB.out)
  have H1 := Lib.hid (h1.later HB.out)
  have H2 := Lib.hid (h2.later HB.out)
  have zr := R.lt; have zf := hg.lt
  have lw0 := h0.low
  have lw1 := h1.low
  have lw2 := h2.low
  have F1 := F.alloc (.cells #[] 102)
  obtain ⟨f1c, f1f⟩ := F1.open
  go_upto_region 2 with (at_builtin; refine wpList_append_own _ rfl _ _ 22 rfl u1.heap.size 102 i0 (.float .f32 0) 1 4 Try.underlying22 HI.out HZ0.out HZ1.out HZ2.out rfl (by decide) (.slice (some ⟨u1.heap.size, 0, none⟩) 0 0) 0 [] rfl (World.ownsRow_made u1 _ 0 (Nat.le_refl _) (by decide) rfl) ⟨p0, o0, none⟩ n c0 (fvals e) rfl (by rw [fvals_length, L0.out, Nat.mul_one]) (row_news (H0.out.later (below_new _ _))) fvals_one (by unfold maxLen; omega) (by omega) (by simp) ?_; intro v' w0 hown hgrow _; obtain ⟨g0, k0, hv, W0, q, z0⟩ := appended hn hown hgrow; rw [hv]; clear hv hown hgrow)
  clear f1c f1f F1
  replace R := R.later q
  replace F := F.later q
  replace H0 := Lib.hid (H0.out.later q)
  replace H1 := Lib.hid (H1.out.later q)
  replace H2 := Lib.hid (H2.out.later q)
  replace HB := Lib.hid (HB.out.trans (q.mono HB.out.size))
  have sa := q.size; clear q
  have BX := Blk.new w0 #[.slice (some ⟨g0, 0, none⟩) n k0, .slice none 0 0, .slice none 0 0] 38
  have y0 := W0.bound g0 rfl
  replace W0 := Lib.hid W0
  have q := below_new w0 (.cells #[.slice (some ⟨g0, 0, none⟩) n k0, .slice none 0 0, .slice none 0 0] 38)
  replace R := R.later q
  replace F := F.later q
  replace H0 := Lib.hid (H0.out.later q)
  replace H1 := Lib.hid (H1.out.later q)
  replace H2 := Lib.hid (H2.out.later q)
  replace W0 := Lib.hid (W0.out.later q)
  replace HB := Lib.hid (HB.out.trans (q.mono HB.out.size))
  clear q
  generalize w0.alloc (.cells #[.slice (some ⟨g0, 0, none⟩) n k0, .slice none 0 0, .slice none 0 0] 38) = u2 at *
  have sb : w0.heap.size < u2.heap.size := BX.lt
  have F1 := F.alloc (.cells #[] 102)
  obtain ⟨f1c, f1f⟩ := F1.open
  go_upto_region 3 with (at_builtin; refine wpList_append_own _ rfl _ _ 22 rfl u2.heap.size 102 i0 (.float .f32 0) 1 4 Try.underlying22 HI.out HZ0.out HZ1.out HZ2.out rfl (by decide) (.slice (some ⟨u2.heap.size, 0, none⟩) 0 0) 0 [] rfl (World.ownsRow_made u2 _ 0 (Nat.le_refl _) (by decide) rfl) ⟨p1, o1, none⟩ n c1 (fvals x) rfl (by rw [fvals_length, L1.out, Nat.mul_one]) (row_news (H1.out.later (below_new _ _))) fvals_one (by unfold maxLen; omega) (by omega) (by simp) ?_; intro v' w1 hown hgrow _; obtain ⟨g1, k1, hv, W1, q, z1⟩ := appended hn hown hgrow; rw [hv]; clear hv hown hgrow; obtain ⟨bc, bf⟩ := (BX.later q).open)
  clear f1c f1f F1 bc bf
  replace R := R.later q
  replace F := F.later q
  replace BX := BX.later q
  replace H0 := Lib.hid (H0.out.later q)
  replace H1 := Lib.hid (H1.out.later q)
  replace H2 := Lib.hid (H2.out.later q)
  replace W0 := Lib.hid (W0.out.later q)
  replace HB := Lib.hid (HB.out.trans (q.mono HB.out.size))
  have s1 := q.size; clear q
  have y1 := W1.bound g1 rfl
  replace W1 := Lib.hid W1
  have ot := out_set w1 w0.heap.size 1 (.slice (some ⟨g1, 0, none⟩) n k1)
  replace F := F.out ot (by omega); replace R := R.out ot (by omega)
  replace H0 := Lib.hid (H0.out.outside ot lw0 (by omega))
  replace H1 := Lib.hid (H1.out.outside ot lw1 (by omega))
  replace H2 := Lib.hid (H2.out.outside ot lw2 (by omega))
  replace W0 := Lib.hid (W0.out.outside ot (lo := _) (hi := _) (fun x hx => by cases hx; exact ⟨Nat.le_refl g0, Nat.lt_succ_self g0⟩) (by omega))
  replace W1 := Lib.hid (W1.out.outside ot (lo := _) (hi := _) (fun x hx => by cases hx; exact ⟨Nat.le_refl g1, Nat.lt_succ_self g1⟩) (by omega))
  replace BX : Blk (w1.setCell ⟨w0.heap.size, 1, none⟩ (.slice (some ⟨g1, 0, none⟩) n k1)) w0.heap.size #[.slice (some ⟨g0, 0, none⟩) n k0, .slice (some ⟨g1, 0, none⟩) n k1, .slice none 0 0] 38 := BX.set 1 _
  replace HB := Lib.hid (HB.out.setCell (p := ⟨w0.heap.size, 1, none⟩) (by dsimp only; omega) (.slice (some ⟨g1, 0, none⟩) n k1))
  clear ot
  have t1 : w1.heap.size ≤ (w1.setCell ⟨w0.heap.size, 1, none⟩ (.slice (some ⟨g1, 0, none⟩) n k1)).heap.size := by simp
  generalize w1.setCell ⟨w0.heap.size, 1, none⟩ (.slice (some ⟨g1, 0, none⟩) n k1) = u3 at *
  have F1 := F.alloc (.cells #[] 102)
  obtain ⟨f1c, f1f⟩ := F1.open
  go_upto_region 4 with (at_builtin; refine wpList_append_own _ rfl _ _ 22 rfl u3.heap.size 102 i0 (.float .f32 0) 1 4 Try.underlying22 HI.out HZ0.out HZ1.out HZ2.out rfl (by decide) (.slice (some ⟨u3.heap.size, 0, none⟩) 0 0) 0 [] rfl (World.ownsRow_made u3 _ 0 (Nat.le_refl _) (by decide) rfl) ⟨p2, o2, none⟩ n c2 (fvals y) rfl (by rw [fvals_length, L2.out, Nat.mul_one]) (row_news (H2.out.later (below_new _ _))) fvals_one (by unfold maxLen; omega) (by omega) (by simp) ?_; intro v' w2 hown hgrow _; obtain ⟨g2, k2, hv, W2, q, z2⟩ := appended hn hown hgrow; rw [hv]; clear hv hown hgrow; obtain ⟨bc, bf⟩ := (BX.later q).open)
  clear f1c f1f F1 bc bf
  replace R := R.later q
  replace F := F.later q
  replace BX := BX.later q
  replace H0 := Lib.hid (H0.out.later q)
  replace H1 := Lib.hid (H1.out.later q)
  replace H2 := Lib.hid (H2.out.later q)
  replace W0 := Lib.hid (W0.out.later q)
  replace W1 := Lib.hid (W1.out.later q)
  replace HB := Lib.hid (HB.out.trans (q.mono HB.out.size))
  have s2 := q.size; clear q
  have y2 := W2.bound g2 rfl
  replace W2 := Lib.hid W2
  have ot := out_set w2 w0.heap.size 2 (.slice (some ⟨g2, 0, none⟩) n k2)
  replace F := F.out ot (by omega); replace R := R.out ot (by omega)
  replace H0 := Lib.hid (H0.out.outside ot lw0 (by omega))
  replace H1 := Lib.hid (H1.out.outside ot lw1 (by omega))
  replace H2 := Lib.hid (H2.out.outside ot lw2 (by omega))
  replace W0 := Lib.hid (W0.out.outside ot (lo := _) (hi := _) (fun x hx => by cases hx; exact ⟨Nat.le_refl g0, Nat.lt_succ_self g0⟩) (by omega))
  replace W1 := Lib.hid (W1.out.outside ot (lo := _) (hi := _) (fun x hx => by cases hx; exact ⟨Nat.le_refl g1, Nat.lt_succ_self g1⟩) (by omega))
  replace W2 := Lib.hid (W2.out.outside ot (lo := _) (hi := _) (fun x hx => by cases hx; exact ⟨Nat.le_refl g2, Nat.lt_succ_self g2⟩) (by omega))
  replace BX : Blk (w2.setCell ⟨w0.heap.size, 2, none⟩ (.slice (some ⟨g2, 0, none⟩) n k2)) w0.heap.size #[.slice (some ⟨g0, 0, none⟩) n k0, .slice (some ⟨g1, 0, none⟩) n k1, .slice (some ⟨g2, 0, none⟩) n k2] 38 := BX.set 2 _
  replace HB := Lib.hid (HB.out.setCell (p := ⟨w0.heap.size, 2, none⟩) (by dsimp only; omega) (.slice (some ⟨g2, 0, none⟩) n k2))
  clear ot
  have t2 : w2.heap.size ≤ (w2.setCell ⟨w0.heap.size, 2, none⟩ (.slice (some ⟨g2, 0, none⟩) n k2)).heap.size := by simp
  generalize w2.setCell ⟨w0.heap.size, 2, none⟩ (.slice (some ⟨g2, 0, none⟩) n k2) = u4 at *
  obtain ⟨bc, bf⟩ := BX.open; obtain ⟨Rc, Rf⟩ := R.open
  go_wp2
  refine bodyPost_ret (v := .agg #[.slice (some ⟨g0, 0, none⟩) n k0, .slice (some ⟨g1, 0, none⟩) n k1, .slice (some ⟨g2, 0, none⟩) n k2]) (by simp [results, Try.results73, go_sem, Rc]) rfl ⟨g0, g1, g2, k0, k1, k2, rfl, ((((W0.out.lower (show w.heap.size ≤ _ by omega)).set (p := ⟨w.heap.size, 0, none⟩) (ne_block (h := w.heap.size) (by omega)) _).set (p := ⟨w.heap.size, 1, none⟩) (ne_block (h := w.heap.size) (by omega)) _).set (p := ⟨w.heap.size, 2, none⟩) (ne_block (h := w.heap.size) (by omega)) _), ((((W1.out.lower (show w.heap.size ≤ _ by omega)).set (p := ⟨w.heap.size, 0, none⟩) (ne_block (h := w.heap.size) (by omega)) _).set (p := ⟨w.heap.size, 1, none⟩) (ne_block (h := w.heap.size) (by omega)) _).set (p := ⟨w.heap.size, 2, none⟩) (ne_block (h := w.heap.size) (by omega)) _), ((((W2.out.lower (show w.heap.size ≤ _ by omega)).set (p := ⟨w.heap.size, 0, none⟩) (ne_block (h := w.heap.size) (by omega)) _).set (p := ⟨w.heap.size, 1, none⟩) (ne_block (h := w.heap.size) (by omega)) _).set (p := ⟨w.heap.size, 2, none⟩) (ne_block (h := w.heap.size) (by omega)) _), by omega, by omega, (((HB.out.setCell (p := ⟨w.heap.size, 0, none⟩) (Nat.le_refl _) _).setCell (p := ⟨w.heap.size, 1, none⟩) (Nat.le_refl _) _).setCell (p := ⟨w.heap.size, 2, none⟩) (Nat.le_refl _) _)⟩

end Go.Proofs.Ytedfbaeajofmnaa

end

section

namespace Go.Proofs.Ytedfbaeajofmnaa
open Go Ieee Go.RowKit
set_option linter.unusedVariables false

def valB (wd hi : Int) (wb : Bool) (xs ys e x y : List Nat) (u v : Int) : Bool := fieldB wd hi wb xs ys e x y && cellB wd hi u v
def valV (wd hi : Int) (wb : Bool) (xs ys e x y : List Nat) (u v : Int) : Nat := if valB wd hi wb xs ys e x y u v then e.getD (u + wd * v).toNat 0 else 0

theorem field_parts {wd hi : Int} {wb : Bool} {xs ys e x y : List Nat} (h : fieldB wd hi wb xs ys e x y = true) : validB wd hi xs ys = true ∧ fitsB wd hi wb e x y = true ∧ (e.length : Int) = wd * hi ∧ (x.length : Int) = wd * hi ∧ (y.length : Int) = wd * hi := by
  unfold fieldB at h
  simp only [Bool.and_eq_true] at h
  refine ⟨h.1, h.2, ?_⟩
  have := h.2
  unfold fitsB at this
  simp only [Bool.and_eq_true, decide_eq_true_eq] at this
  exact ⟨this.1.1, this.1.2.1, this.1.2.2⟩

theorem valB_split (wd hi : Int) (wb : Bool) (xs ys e x y : List Nat) : fieldB wd hi wb xs ys e x y = (validB wd hi xs ys && fitsB wd hi wb e x y) := rfl

theorem valV_lt {wd hi : Int} {wb : Bool} {xs ys e x y : List Nat} {u v : Int} (h : ∀ z ∈ e, z < 2 ^ 32) : valV wd hi wb xs ys e x y u v < 2 ^ 32 := by
  unfold valV
  split
  · rw [List.getD_eq_getElem?_getD]
    cases k : e[(u + wd * v).toNat]? with
    | none => decide
    | some z => exact h _ (List.mem_of_getElem? k)
  · decide

end Go.Proofs.Ytedfbaeajofmnaa

end

section

namespace Go.Proofs.Ytedfbaeajofmnaa
open Go Ieee Go.RowKit
set_option linter.unusedVariables false

def putB (wd hi : Int) (wb : Bool) (xs ys e x y : List Nat) (u v : Int) (z : Nat) : Bool := fieldB wd hi wb xs ys e x y && (cellB wd hi u v && !(bordB wb wd hi u v && nzB z))
def putE (wd hi : Int) (wb : Bool) (xs ys e x y : List Nat) (u v : Int) (z : Nat) : List (Option Nat) := if putB wd hi wb xs ys e x y u v z then (cl e).set (u + wd * v).toNat (canon .f32 z) else []
def putO (wd hi : Int) (wb : Bool) (xs ys e x y : List Nat) (u v : Int) (z : Nat) (l : List Nat) : List (Option Nat) := if putB wd hi wb xs ys e x y u v z then cl l else []

theorem own_some {w : World} {B g : Nat} {vs : List Value} (h : OwnV w B (some ⟨g, 0, none⟩) vs) : ∃ cs t, B ≤ g ∧ Blk w g cs t ∧ ∀ (i : Nat) (u : Value), vs[i]? = some u → cs[i]? = some u := by
  rcases h with ⟨h, _⟩ | ⟨g', cs, t, h, hb, hc, hv⟩
  · cases h
  · cases h; exact ⟨cs, t, hb, hc, hv⟩

theorem own_put {w : World} {B g : Nat} {vs : List Value} (h : OwnV w B (some ⟨g, 0, none⟩) vs) (j : Nat) (v : Value) (hj : j < vs.length) : OwnV (w.setCell ⟨g, j, none⟩ v) B (some ⟨g, 0, none⟩) (vs.set j v) := by
  obtain ⟨cs, t, hb, hc, hv⟩ := own_some h
  refine .inr ⟨g, cs.setIfInBounds j v, t, rfl, hb, hc.set j v, fun i u hu => ?_⟩
  have hsz : j < cs.size := (Array.getElem?_eq_some_iff.1 (hv j _ (List.getElem?_eq_getElem hj))).1
  rw [List.getElem?_set] at hu
  rw [Array.getElem?_setIfInBounds]
  by_cases e : j = i
  · subst e
    rw [if_pos rfl] at hu ⊢
    rw [if_pos hj] at hu
    rw [if_pos hsz]; exact hu
  · rw [if_neg e] at hu ⊢
    exact hv i u hu

theorem fvals_set (xs : List Nat) (j z : Nat) : (fvals xs).set j (.float .f32 z) = fvals (xs.set j z) := by unfold fvals; rw [List.map_set]

theorem is_set {xs : List Nat} (h : ∀ x ∈ xs, x < 2 ^ 32) (n : xs.length ≤ 256) (j z : Nat) (hz : z < 2 ^ 32) : Is (xs.set j z) ((cl xs).set j (canon .f32 z)) :=
  ⟨(by unfold cl; rw [List.map_set]), (fun x hx => by
    rcases List.mem_or_eq_of_mem_set hx with h' | h'
    · exact h _ h'
    · rw [h']; exact hz), (by rw [List.length_set]; exact n)⟩

end Go.Proofs.Ytedfbaeajofmnaa

end
