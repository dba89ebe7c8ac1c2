/- Several texts in one: facts on floats, lists, memory and the functions that the theorems beside this text use. Conditions: none beyond those of each theorem. -/
import Derived.Test.YtedfbaeajofmnaaBu19

set_option linter.unusedVariables false

section

namespace Go.Proofs.Ytedfbaeajofmnaa
open Go Ieee Go.RowKit
set_option linter.unusedVariables false

set_option maxRecDepth 100000 in
theorem specAtI (g : Nat) (wd hi x y : Int) (wb : Bool) (v3 v4 : Value) (w : World) (T : Blk w g #[.int .i64 wd, .int .i64 hi, .bool wb, v3, v4] 29) (h1 : 3 ≤ wd) (h2 : wd ≤ 16) (h3 : 3 ≤ hi) (h4 : hi ≤ 16) (x1 : -1 ≤ x) (x2 : x ≤ wd) (y1 : -1 ≤ y) (y2 : y ≤ hi) :
    Calls Try.prog 129 #[.pointer (some ⟨g, 0, none⟩), .int .i64 x, .int .i64 y] w fun e w' => e = .returned (.int .i64 (x % wd + wd * (y % hi))) ∧ ∃ n, w' = w.drewN n := by
  obtain ⟨Tc, Tf⟩ := T.open
  have e1 := Int.emod_nonneg x (show wd ≠ 0 by omega); have e2 := Int.emod_lt_of_pos x (show 0 < wd by omega)
  have e3 := Int.emod_nonneg y (show hi ≠ 0 by omega); have e4 := Int.emod_lt_of_pos y (show 0 < hi by omega)
  have p1 : 0 ≤ wd * (y % hi) := Int.mul_nonneg (by omega) e3
  have p2 : wd * (y % hi) ≤ 256 := Int.le_trans (Int.mul_le_mul h2 (show y % hi ≤ 16 by omega) e3 (by decide)) (by decide)
  have z1 : 0 ≤ x + wd := by omega
  have z2 : 0 ≤ y + hi := by omega
  have wnz : (wd == 0) = false := by simp; omega
  have hnz : (hi == 0) = false := by simp; omega
  have wz : wd ≠ 0 := by omega
  have hz : hi ≠ 0 := by omega
  go_enter Try.func129, Try.ntmps129
  go_wp2_with fail
  go_quiet (fail)
  go_wp2
  go_ret
  exact ⟨rfl, _, rfl⟩

theorem specAtV (g m k z : Nat) (x y : Int) (wb : Bool) (v3 v4 : Value) (w : World) (T : Blk w g #[.int .i64 (m : Int), .int .i64 (k : Int), .bool wb, v3, v4] 29) (h1 : 3 ≤ m) (h2 : m ≤ 16) (h3 : 3 ≤ k) (h4 : k ≤ 16) (x1 : -1 ≤ x) (x2 : x ≤ (m : Int)) (y1 : -1 ≤ y) (y2 : y ≤ (k : Int)) (hz : Hid (x % (m : Int) + (m : Int) * (y % (k : Int)) = (z : Int))) :
    Calls Try.prog 129 #[.pointer (some ⟨g, 0, none⟩), .int .i64 x, .int .i64 y] w fun e w' => e = .returned (.int .i64 (z : Int)) ∧ Below w.heap.size w w' :=
  (specAtI g (m : Int) (k : Int) x y wb v3 v4 w T (by omega) (by omega) (by omega) (by omega) x1 x2 y1 y2).mono fun e w' ⟨h, n, hw⟩ => ⟨by rw [h, hz.out], by rw [hw]; exact below_drewN (Below.refl _ _) n⟩

theorem place_here {m k p q j : Nat} (hp : p < m) (hq : q < k) (h : p + m * q = j) : (p : Int) % (m : Int) + (m : Int) * ((q : Int) % (k : Int)) = (j : Int) := by
  rw [Int.emod_eq_of_lt (by omega) (by omega), Int.emod_eq_of_lt (by omega) (by omega), ← h]; simp
theorem place_dn {m k p q j : Nat} (h1 : 3 ≤ m) (h3 : 3 ≤ k) (hp : p < m) (hq : q < k) (h : p + m * ((q + 1) % k) = j) : (p : Int) % (m : Int) + (m : Int) * (((q : Int) + 1) % (k : Int)) = (j : Int) := by
  obtain ⟨e1, e2⟩ := beside_below h1 h3 hp hq
  rw [e1, e2, ← h, Int.natCast_add, Int.natCast_mul]
theorem place_rt {m k p q j : Nat} (h1 : 3 ≤ m) (h3 : 3 ≤ k) (hp : p < m) (hq : q < k) (h : (p + 1) % m + m * q = j) : ((p : Int) + 1) % (m : Int) + (m : Int) * ((q : Int) % (k : Int)) = (j : Int) := by
  obtain ⟨e1, e2⟩ := beside_right h1 h3 hp hq
  rw [e1, e2, ← h, Int.natCast_add, Int.natCast_mul]
theorem place_up {m k p q j : Nat} (h1 : 3 ≤ m) (h3 : 3 ≤ k) (hp : p < m) (hq : q < k) (h : p + m * ((q + (k - 1)) % k) = j) : (p : Int) % (m : Int) + (m : Int) * (((q : Int) - 1) % (k : Int)) = (j : Int) := by
  obtain ⟨e1, e2⟩ := beside_above h1 h3 hp hq
  rw [e1, e2, ← h, Int.natCast_add, Int.natCast_mul]
theorem place_lf {m k p q j : Nat} (h1 : 3 ≤ m) (h3 : 3 ≤ k) (hp : p < m) (hq : q < k) (h : (p + (m - 1)) % m + m * q = j) : ((p : Int) - 1) % (m : Int) + (m : Int) * ((q : Int) % (k : Int)) = (j : Int) := by
  obtain ⟨e1, e2⟩ := beside_left h1 h3 hp hq
  rw [e1, e2, ← h, Int.natCast_add, Int.natCast_mul]

theorem row_num {w : World} {b o i : Nat} {xs : List Nat} (h : RowV w (some ⟨b, o, none⟩) (fvals xs)) (hi : i < xs.length) : w.cell? ⟨b, o + i, none⟩ = some (.float .f32 (xs.getD i 0)) := by
  obtain ⟨b', o', e, hc⟩ := h i _ (fvals_get hi)
  cases e
  rw [getD_get hi]; exact hc

set_option maxHeartbeats 8000000 in
set_option maxRecDepth 100000 in
theorem specHalfX (g gf m k n p q j b0 b1 b2 o0 o1 o2 c0 c1 c2 : Nat) (wb : Bool) (v3 v4 : Value) (e x y : List Nat) (w : World) (T : Blk w g #[.int .i64 (m : Int), .int .i64 (k : Int), .bool wb, v3, v4] 29) (Fd : Blk w gf #[.slice (some ⟨b0, o0, none⟩) e.length c0, .slice (some ⟨b1, o1, none⟩) x.length c1, .slice (some ⟨b2, o2, none⟩) y.length c2] 38) (r0 : RowV w (some ⟨b0, o0, none⟩) (fvals e)) (r1 : RowV w (some ⟨b1, o1, none⟩) (fvals x)) (r2 : RowV w (some ⟨b2, o2, none⟩) (fvals y)) (l0 : e.length = n) (l1 : x.length = n) (l2 : y.length = n) (bx : ∀ z ∈ x, z < 2 ^ 32) (h1 : 3 ≤ m) (h2 : m ≤ 16) (h3 : 3 ≤ k) (h4 : k ≤ 16) (hp : p < m) (hq : q < k) (hj : p + m * q = j) (hn : Hid (n = m * k)) :
    Calls Try.prog 150 #[.pointer (some ⟨g, 0, none⟩), .pointer (some ⟨gf, 0, none⟩), .int .i64 (p : Int), .int .i64 (q : Int)] w fun r w' => ∃ v, r = .returned (.float .f32 v) ∧ canon .f32 v = halfX wb m k (nums e) (nums x) j ∧ v < 2 ^ 32 ∧ Below w.heap.size w w' := by
  have hjn : j < n := by rw [hn.out, ← hj]; exact place_lt hp hq
  have h0 : 0 < m := by omega
  have h0k : 0 < k := by omega
  have ejm : j % m = p := by rw [← hj, Nat.add_mul_mod_self_left, Nat.mod_eq_of_lt hp]
  have ejd : j / m = q := by rw [← hj, Nat.add_mul_div_left _ _ h0, Nat.div_eq_of_lt hp, Nat.zero_add]
  have hD : halfX wb m k (nums e) (nums x) j = if belowB wb (k : Int) ((j / m : Nat) : Int) then nums x j else fop .sub .f32 (nums x j) (fop .mul .f32 half32 (fop .sub .f32 (nums e (dnI m k j)) (nums e j))) := rfl
  have hd : dnI m k j < n := by rw [hn.out]; exact dn_lt h0 h0k
  have hU : dnI m k j = p + m * ((q + 1) % k) := by show j % m + m * ((j / m + 1) % k) = _; rw [ejm, ejd]
  rw [ejd] at hD
  clear ejm ejd
  have HJ := Lib.hid (place_here hp hq hj)
  generalize dnI m k j = dn at *
  have HZ := Lib.hid (place_dn (j := dn) h1 h3 hp hq hU.symm)
  have HD := Lib.hid hD; clear hD hU
  have F0 := Lib.hid (row_num r0 (show j < e.length by omega)); have FD := Lib.hid (row_num r0 (show dn < e.length by omega)); have F1 := Lib.hid (row_num r1 (show j < x.length by omega))
  have je : (j : Int) < (e.length : Int) := by omega
  have de : (dn : Int) < (e.length : Int) := by omega
  have jx : (j : Int) < (x.length : Int) := by omega
  have NE : Hid (nums e j = canon .f32 (e.getD j 0)) := Lib.hid rfl
  have ND : Hid (nums e dn = canon .f32 (e.getD dn 0)) := Lib.hid rfl
  have NX : Hid (nums x j = canon .f32 (x.getD j 0)) := Lib.hid rfl
  have XLT := Lib.hid (getD_lt bx j)
  generalize e.getD j 0 = ej at *
  generalize e.getD dn 0 = ed at *
  generalize x.getD j 0 = xj at *
  clear l0 l1 l2 r0 r1 r2 bx hd
  have aslc : ∀ w, (isAgg 22).run Try.prog w = .ok false w := fun w => by kernel_rfl
  have af32 : ∀ w, (isAgg 102).run Try.prog w = .ok false w := fun w => by kernel_rfl
  obtain ⟨Tc, Tf⟩ := T.open
  obtain ⟨Fc, Ff⟩ := Fd.open
  cases wb with
  | true =>
    have HV : Hid (halfX true m k (nums e) (nums x) j = fop .sub .f32 (nums x j) (fop .mul .f32 half32 (fop .sub .f32 (nums e dn) (nums e j)))) := Lib.hid HD.out
    go_enter Try.func150, Try.ntmps150
    go_wp2_with fail
    refine (specAtV g m k j _ _ _ v3 v4 _ T h1 h2 h3 h4 (by omega) (by omega) (by omega) (by omega) HJ).mono ?_
    rintro r u1 ⟨rfl, q1⟩
    clear Tc Tf Fc Ff
    replace T := T.later q1; replace Fd := Fd.later q1
    replace F0 := Lib.hid (cell_on F0.out q1); replace FD := Lib.hid (cell_on FD.out q1); replace F1 := Lib.hid (cell_on F1.out q1)
    have HB := Lib.hid q1; clear q1
    obtain ⟨Tc, Tf⟩ := T.open
    obtain ⟨Fc, Ff⟩ := Fd.open
    go_wp2_with fail
    refine wp_region_relC (Grows u1) (fun _ _ v => v = .int .i64 (dn : Int)) (by kernel_rfl) (by kernel_rfl) (Grows.drew _) ?_
    (refine wpRel_plain rfl rfl ?_; intro K hK; go_big_quiet_op; (first | go_big_quiet_on | (refine ⟨_, fun _ _ => rfl, ?_⟩; go_big_quiet_on)))
    (refine wpRel_nilCheck rfl _ rfl ?_; simp only [Act.put, List.setIfInBounds_toArray, List.set_cons_zero, List.set_cons_succ])
    (refine wpRel_plain rfl rfl ?_; intro K hK; go_big_quiet_op; (first | go_big_quiet_on | (refine ⟨_, fun _ _ => rfl, ?_⟩; go_big_quiet_on)))
    (refine wpRel_load rfl _ rfl (.slice (some ⟨b1, o1, none⟩) x.length c1) (load_cell aslc (Fc 1)) ?_; simp only [Act.put, List.setIfInBounds_toArray, List.set_cons_zero, List.set_cons_succ])
    (refine wpRel_plain rfl rfl ?_; intro K hK; go_big_quiet_op; (first | go_big_quiet_on | (refine ⟨_, fun _ _ => rfl, ?_⟩; go_big_quiet_on)))
    (refine wpRel_plain rfl rfl ?_; intro K hK; go_big_quiet_op; (first | go_big_quiet_on | (refine ⟨_, fun _ _ => rfl, ?_⟩; go_big_quiet_on)))
    (refine wpRel_load rfl _ rfl (.float .f32 (xj)) (load_cell af32 F1.out) ?_; simp only [Act.put, List.setIfInBounds_toArray, List.set_cons_zero, List.set_cons_succ])
    (refine wpRel_plain rfl rfl ?_; intro K hK; go_big_quiet_op; (first | go_big_quiet_on | (refine ⟨_, fun _ _ => rfl, ?_⟩; go_big_quiet_on)))
    (refine wpRel_nilCheck rfl _ rfl ?_; simp only [Act.put, List.setIfInBounds_toArray, List.set_cons_zero, List.set_cons_succ])
    (refine wpRel_plain rfl rfl ?_; intro K hK; go_big_quiet_op; (first | go_big_quiet_on | (refine ⟨_, fun _ _ => rfl, ?_⟩; go_big_quiet_on)))
    (refine wpRel_load rfl _ rfl (.slice (some ⟨b0, o0, none⟩) e.length c0) (load_cell aslc (Fc 0)) ?_; simp only [Act.put, List.setIfInBounds_toArray, List.set_cons_zero, List.set_cons_succ])
    (refine wpRel_plain rfl rfl ?_; intro K hK; go_big_quiet_op; (first | go_big_quiet_on | (refine ⟨_, fun _ _ => rfl, ?_⟩; go_big_quiet_on)))
    (refine wpRel_plain rfl rfl ?_; intro K hK; go_big_quiet_op; (first | go_big_quiet_on | (refine ⟨_, fun _ _ => rfl, ?_⟩; go_big_quiet_on)))
    (refine wpRel_plain rfl rfl ?_; intro K hK; go_big_quiet_op; (first | go_big_quiet_on | (refine ⟨_, fun _ _ => rfl, ?_⟩; go_big_quiet_on)))
    (refine wpRel_plain rfl rfl ?_; intro K hK; go_big_quiet_op; (first | go_big_quiet_on | (refine ⟨_, fun _ _ => rfl, ?_⟩; go_big_quiet_on)))
    (refine wpRel_callC rfl 129 _ rfl Try.func129 (by kernel_rfl) (by kernel_rfl) [.pointer (some ⟨g, 0, none⟩), .int .i64 (p : Int), .int .i64 ((q : Int) + 1)] rfl (fun w' hw' => (specAtV g m k dn _ _ true v3 v4 w' (T.later hw') h1 h2 h3 h4 (by omega) (by omega) (by omega) (by omega) HZ).mono (by rintro e w'' ⟨rfl, q9⟩; exact ⟨_, rfl, rfl, Grows.next hw' q9⟩)) ?_; intro v hv; obtain rfl := hv; simp only [Act.put, List.setIfInBounds_toArray, List.set_cons_zero, List.set_cons_succ])
    (refine wpRel_plain rfl rfl ?_; intro K hK; go_big_quiet_op; (first | go_big_quiet_on | (refine ⟨_, fun _ _ => rfl, ?_⟩; go_big_quiet_on)))
    (refine wpRel_load rfl _ rfl (.float .f32 (ed)) (load_cell af32 FD.out) ?_; simp only [Act.put, List.setIfInBounds_toArray, List.set_cons_zero, List.set_cons_succ])
    (refine wpRel_plain rfl rfl ?_; intro K hK; go_big_quiet_op; (first | go_big_quiet_on | (refine ⟨_, fun _ _ => rfl, ?_⟩; go_big_quiet_on)))
    (refine wpRel_nilCheck rfl _ rfl ?_; simp only [Act.put, List.setIfInBounds_toArray, List.set_cons_zero, List.set_cons_succ])
    (refine wpRel_plain rfl rfl ?_; intro K hK; go_big_quiet_op; (first | go_big_quiet_on | (refine ⟨_, fun _ _ => rfl, ?_⟩; go_big_quiet_on)))
    (refine wpRel_load rfl _ rfl (.slice (some ⟨b0, o0, none⟩) e.length c0) (load_cell aslc (Fc 0)) ?_; simp only [Act.put, List.setIfInBounds_toArray, List.set_cons_zero, List.set_cons_succ])
    (refine wpRel_plain rfl rfl ?_; intro K hK; go_big_quiet_op; (first | go_big_quiet_on | (refine ⟨_, fun _ _ => rfl, ?_⟩; go_big_quiet_on)))
    (refine wpRel_plain rfl rfl ?_; intro K hK; go_big_quiet_op; (first | go_big_quiet_on | (refine ⟨_, fun _ _ => rfl, ?_⟩; go_big_quiet_on)))
    (refine wpRel_load rfl _ rfl (.float .f32 (ej)) (load_cell af32 F0.out) ?_; simp only [Act.put, List.setIfInBounds_toArray, List.set_cons_zero, List.set_cons_succ])
    (refine wpRel_arithC rfl rfl (fun _ n h => Grows.drewN n h) .f32 _ _ rfl rfl ?_; intro a1 hc_a1 hb_a1; have H_a1 := Lib.hid hc_a1; clear hc_a1; replace hb_a1 : a1 < 2 ^ 32 := hb_a1; simp only [Act.put, List.setIfInBounds_toArray, List.set_cons_zero, List.set_cons_succ])
    (refine wpRel_arithC rfl rfl (fun _ n h => Grows.drewN n h) .f32 _ _ rfl rfl ?_; intro a2 hc_a2 hb_a2; have H_a2 := Lib.hid hc_a2; clear hc_a2; replace hb_a2 : a2 < 2 ^ 32 := hb_a2; simp only [Act.put, List.setIfInBounds_toArray, List.set_cons_zero, List.set_cons_succ])
    (refine wpRel_arithC rfl rfl (fun _ n h => Grows.drewN n h) .f32 _ _ rfl rfl ?_; intro a3 hc_a3 hb_a3; have H_a3 := Lib.hid hc_a3; clear hc_a3; replace hb_a3 : a3 < 2 ^ 32 := hb_a3; simp only [Act.put, List.setIfInBounds_toArray, List.set_cons_zero, List.set_cons_succ])
    (refine wpRel_plain rfl rfl ?_; intro K hK; go_big_quiet_op; (first | go_big_quiet_on | (refine ⟨_, fun _ _ => rfl, ?_⟩; go_big_quiet_on)))
    refine wpRel_nil ?_
    intro u2 q2
    go_wp2
    go_ret
    exact ⟨a3, rfl, by rw [HV.out, H_a3.out, H_a2.out, H_a1.out, NX.out, NE.out, ND.out], hb_a3, HB.out.trans (Below.mono q2 HB.out.size)⟩
  | false =>
    by_cases hl : (q : Int) = (k : Int) - 1
    · skip
      have HV : Hid (halfX false m k (nums e) (nums x) j = nums x j) := Lib.hid (by rw [HD.out, if_pos (show belowB false _ _ = true by unfold belowB; simp [hl])])
      have hb : ((q : Int) == (k : Int) - 1) = true := by simp [hl]
      have hl2 := Lib.hid hl; clear hl
      go_enter Try.func150, Try.ntmps150
      go_wp2_with fail
      refine (specAtV g m k j _ _ _ v3 v4 _ T h1 h2 h3 h4 (by omega) (by omega) (by omega) (by omega) HJ).mono ?_
      rintro r u1 ⟨rfl, q1⟩
      clear Tc Tf Fc Ff
      replace T := T.later q1; replace Fd := Fd.later q1
      replace F0 := Lib.hid (cell_on F0.out q1); replace FD := Lib.hid (cell_on FD.out q1); replace F1 := Lib.hid (cell_on F1.out q1)
      have HB := Lib.hid q1; clear q1
      obtain ⟨Tc, Tf⟩ := T.open
      obtain ⟨Fc, Ff⟩ := Fd.open
      have f1 := F1.out
      go_wp2
      go_ret
      exact ⟨xj, rfl, by rw [HV.out, NX.out], XLT.out, HB.out⟩
    · skip
      have HV : Hid (halfX false m k (nums e) (nums x) j = fop .sub .f32 (nums x j) (fop .mul .f32 half32 (fop .sub .f32 (nums e dn) (nums e j)))) := Lib.hid (by rw [HD.out, if_neg (by unfold belowB; simp [hl])])
      have hb : ((q : Int) == (k : Int) - 1) = false := by simp [hl]
      have hl2 := Lib.hid hl; clear hl
      go_enter Try.func150, Try.ntmps150
      go_wp2_with fail
      refine (specAtV g m k j _ _ _ v3 v4 _ T h1 h2 h3 h4 (by omega) (by omega) (by omega) (by omega) HJ).mono ?_
      rintro r u1 ⟨rfl, q1⟩
      clear Tc Tf Fc Ff
      replace T := T.later q1; replace Fd := Fd.later q1
      replace F0 := Lib.hid (cell_on F0.out q1); replace FD := Lib.hid (cell_on FD.out q1); replace F1 := Lib.hid (cell_on F1.out q1)
      have HB := Lib.hid q1; clear q1
      obtain ⟨Tc, Tf⟩ := T.open
      obtain ⟨Fc, Ff⟩ := Fd.open
      go_wp2_with fail
      refine wp_region_relC (Grows u1) (fun _ _ v => v = .int .i64 (dn : Int)) (by kernel_rfl) (by kernel_rfl) (Grows.drew _) ?_
      (refine wpRel_plain rfl rfl ?_; intro K hK; go_big_quiet_op; (first | go_big_quiet_on | (refine ⟨_, fun _ _ => rfl, ?_⟩; go_big_quiet_on)))
      (refine wpRel_nilCheck rfl _ rfl ?_; simp only [Act.put, List.setIfInBounds_toArray, List.set_cons_zero, List.set_cons_succ])
      (refine wpRel_plain rfl rfl ?_; intro K hK; go_big_quiet_op; (first | go_big_quiet_on | (refine ⟨_, fun _ _ => rfl, ?_⟩; go_big_quiet_on)))
      (refine wpRel_load rfl _ rfl (.slice (some ⟨b1, o1, none⟩) x.length c1) (load_cell aslc (Fc 1)) ?_; simp only [Act.put, List.setIfInBounds_toArray, List.set_cons_zero, List.set_cons_succ])
      (refine wpRel_plain rfl rfl ?_; intro K hK; go_big_quiet_op; (first | go_big_quiet_on | (refine ⟨_, fun _ _ => rfl, ?_⟩; go_big_quiet_on)))
      (refine wpRel_plain rfl rfl ?_; intro K hK; go_big_quiet_op; (first | go_big_quiet_on | (refine ⟨_, fun _ _ => rfl, ?_⟩; go_big_quiet_on)))
      (refine wpRel_load rfl _ rfl (.float .f32 (xj)) (load_cell af32 F1.out) ?_; simp only [Act.put, List.setIfInBounds_toArray, List.set_cons_zero, List.set_cons_succ])
      (refine wpRel_plain rfl rfl ?_; intro K hK; go_big_quiet_op; (first | go_big_quiet_on | (refine ⟨_, fun _ _ => rfl, ?_⟩; go_big_quiet_on)))
      (refine wpRel_nilCheck rfl _ rfl ?_; simp only [Act.put, List.setIfInBounds_toArray, List.set_cons_zero, List.set_cons_succ])
      (refine wpRel_plain rfl rfl ?_; intro K hK; go_big_quiet_op; (first | go_big_quiet_on | (refine ⟨_, fun _ _ => rfl, ?_⟩; go_big_quiet_on)))
      (refine wpRel_load rfl _ rfl (.slice (some ⟨b0, o0, none⟩) e.length c0) (load_cell aslc (Fc 0)) ?_; simp only [Act.put, List.setIfInBounds_toArray, List.set_cons_zero, List.set_cons_succ])
      (refine wpRel_plain rfl rfl ?_; intro K hK; go_big_quiet_op; (first | go_big_quiet_on | (refine ⟨_, fun _ _ => rfl, ?_⟩; go_big_quiet_on)))
      (refine wpRel_plain rfl rfl ?_; intro K hK; go_big_quiet_op; (first | go_big_quiet_on | (refine ⟨_, fun _ _ => rfl, ?_⟩; go_big_quiet_on)))
      (refine wpRel_plain rfl rfl ?_; intro K hK; go_big_quiet_op; (first | go_big_quiet_on | (refine ⟨_, fun _ _ => rfl, ?_⟩; go_big_quiet_on)))
      (refine wpRel_plain rfl rfl ?_; intro K hK; go_big_quiet_op; (first | go_big_quiet_on | (refine ⟨_, fun _ _ => rfl, ?_⟩; go_big_quiet_on)))
      (refine wpRel_callC rfl 129 _ rfl Try.func129 (by kernel_rfl) (by kernel_rfl) [.pointer (some ⟨g, 0, none⟩), .int .i64 (p : Int), .int .i64 ((q : Int) + 1)] rfl (fun w' hw' => (specAtV g m k dn _ _ false v3 v4 w' (T.later hw') h1 h2 h3 h4 (by omega) (by omega) (by omega) (by omega) HZ).mono (by rintro e w'' ⟨rfl, q9⟩; exact ⟨_, rfl, rfl, Grows.next hw' q9⟩)) ?_; intro v hv; obtain rfl := hv; simp only [Act.put, List.setIfInBounds_toArray, List.set_cons_zero, List.set_cons_succ])
      (refine wpRel_plain rfl rfl ?_; intro K hK; go_big_quiet_op; (first | go_big_quiet_on | (refine ⟨_, fun _ _ => rfl, ?_⟩; go_big_quiet_on)))
      (refine wpRel_load rfl _ rfl (.float .f32 (ed)) (load_cell af32 FD.out) ?_; simp only [Act.put, List.setIfInBounds_toArray, List.set_cons_zero, List.set_cons_succ])
      (refine wpRel_plain rfl rfl ?_; intro K hK; go_big_quiet_op; (first | go_big_quiet_on | (refine ⟨_, fun _ _ => rfl, ?_⟩; go_big_quiet_on)))
      (refine wpRel_nilCheck rfl _ rfl ?_; simp only [Act.put, List.setIfInBounds_toArray, List.set_cons_zero, List.set_cons_succ])
      (refine wpRel_plain rfl rfl ?_; intro K hK; go_big_quiet_op; (first | go_big_quiet_on | (refine ⟨_, fun _ _ => rfl, ?_⟩; go_big_quiet_on)))
      (refine wpRel_load rfl _ rfl (.slice (some ⟨b0, o0, none⟩) e.length c0) (load_cell aslc (Fc 0)) ?_; simp only [Act.put, List.setIfInBounds_toArray, List.set_cons_zero, List.set_cons_succ])
      (refine wpRel_plain rfl rfl ?_; intro K hK; go_big_quiet_op; (first | go_big_quiet_on | (refine ⟨_, fun _ _ => rfl, ?_⟩; go_big_quiet_on)))
      (refine wpRel_plain rfl rfl ?_; intro K hK; go_big_quiet_op; (first | go_big_quiet_on | (refine ⟨_, fun _ _ => rfl, ?_⟩; go_big_quiet_on)))
      (refine wpRel_load rfl _ rfl (.float .f32 (ej)) (load_cell af32 F0.out) ?_; simp only [Act.put, List.setIfInBounds_toArray, List.set_cons_zero, List.set_cons_succ])
      (refine wpRel_arithC rfl rfl (fun _ n h => Grows.drewN n h) .f32 _ _ rfl rfl ?_; intro a1 hc_a1 hb_a1; have H_a1 := Lib.hid hc_a1; clear hc_a1; replace hb_a1 : a1 < 2 ^ 32 := hb_a1; simp only [Act.put, List.setIfInBounds_toArray, List.set_cons_zero, List.set_cons_succ])
      (refine wpRel_arithC rfl rfl (fun _ n h => Grows.drewN n h) .f32 _ _ rfl rfl ?_; intro a2 hc_a2 hb_a2; have H_a2 := Lib.hid hc_a2; clear hc_a2; replace hb_a2 : a2 < 2 ^ 32 := hb_a2; simp only [Act.put, List.setIfInBounds_toArray, List.set_cons_zero, List.set_cons_succ])
      (refine wpRel_arithC rfl rfl (fun _ n h => Grows.drewN n h) .f32 _ _ rfl rfl ?_; intro a3 hc_a3 hb_a3; have H_a3 := Lib.hid hc_a3; clear hc_a3; replace hb_a3 : a3 < 2 ^ 32 := hb_a3; simp only [Act.put, List.setIfInBounds_toArray, List.set_cons_zero, List.set_cons_succ])
      (refine wpRel_plain rfl rfl ?_; intro K hK; go_big_quiet_op; (first | go_big_quiet_on | (refine ⟨_, fun _ _ => rfl, ?_⟩; go_big_quiet_on)))
      refine wpRel_nil ?_
      intro u2 q2
      go_wp2
      go_ret
      exact ⟨a3, rfl, by rw [HV.out, H_a3.out, H_a2.out, H_a1.out, NX.out, NE.out, ND.out], hb_a3, HB.out.trans (Below.mono q2 HB.out.size)⟩

set_option maxHeartbeats 8000000 in
set_option maxRecDepth 100000 in
theorem specHalfY (g gf m k n p q j b0 b1 b2 o0 o1 o2 c0 c1 c2 : Nat) (wb : Bool) (v3 v4 : Value) (e x y : List Nat) (w : World) (T : Blk w g #[.int .i64 (m : Int), .int .i64 (k : Int), .bool wb, v3, v4] 29) (Fd : Blk w gf #[.slice (some ⟨b0, o0, none⟩) e.length c0, .slice (some ⟨b1, o1, none⟩) x.length c1, .slice (some ⟨b2, o2, none⟩) y.length c2] 38) (r0 : RowV w (some ⟨b0, o0, none⟩) (fvals e)) (r1 : RowV w (some ⟨b1, o1, none⟩) (fvals x)) (r2 : RowV w (some ⟨b2, o2, none⟩) (fvals y)) (l0 : e.length = n) (l1 : x.length = n) (l2 : y.length = n) (bx : ∀ z ∈ y, z < 2 ^ 32) (h1 : 3 ≤ m) (h2 : m ≤ 16) (h3 : 3 ≤ k) (h4 : k ≤ 16) (hp : p < m) (hq : q < k) (hj : p + m * q = j) (hn : Hid (n = m * k)) :
    Calls Try.prog 151 #[.pointer (some ⟨g, 0, none⟩), .pointer (some ⟨gf, 0, none⟩), .int .i64 (p : Int), .int .i64 (q : Int)] w fun r w' => ∃ v, r = .returned (.float .f32 v) ∧ canon .f32 v = halfY wb m k (nums e) (nums y) j ∧ v < 2 ^ 32 ∧ Below w.heap.size w w' := by
  have hjn : j < n := by rw [hn.out, ← hj]; exact place_lt hp hq
  have h0 : 0 < m := by omega
  have h0k : 0 < k := by omega
  have ejm : j % m = p := by rw [← hj, Nat.add_mul_mod_self_left, Nat.mod_eq_of_lt hp]
  have ejd : j / m = q := by rw [← hj, Nat.add_mul_div_left _ _ h0, Nat.div_eq_of_lt hp, Nat.zero_add]
  have hD : halfY wb m k (nums e) (nums y) j = if besideB wb (m : Int) ((j % m : Nat) : Int) then nums y j else fop .add .f32 (nums y j) (fop .mul .f32 half32 (fop .sub .f32 (nums e (rtI m j)) (nums e j))) := rfl
  have hd : rtI m j < n := by rw [hn.out]; exact rt_lt h0 (by rw [← hn.out]; exact hjn)
  have hU : rtI m j = (p + 1) % m + m * q := by show (j % m + 1) % m + m * (j / m) = _; rw [ejm, ejd]
  rw [ejm] at hD
  clear ejm ejd
  have HJ := Lib.hid (place_here hp hq hj)
  generalize rtI m j = dn at *
  have HZ := Lib.hid (place_rt (j := dn) h1 h3 hp hq hU.symm)
  have HD := Lib.hid hD; clear hD hU
  have F0 := Lib.hid (row_num r0 (show j < e.length by omega)); have FD := Lib.hid (row_num r0 (show dn < e.length by omega)); have F1 := Lib.hid (row_num r2 (show j < y.length by omega))
  have je : (j : Int) < (e.length : Int) := by omega
  have de : (dn : Int) < (e.length : Int) := by omega
  have jx : (j : Int) < (y.length : Int) := by omega
  have NE : Hid (nums e j = canon .f32 (e.getD j 0)) := Lib.hid rfl
  have ND : Hid (nums e dn = canon .f32 (e.getD dn 0)) := Lib.hid rfl
  have NX : Hid (nums y j = canon .f32 (y.getD j 0)) := Lib.hid rfl
  have XLT := Lib.hid (getD_lt bx j)
  generalize e.getD j 0 = ej at *
  generalize e.getD dn 0 = ed at *
  generalize y.getD j 0 = xj at *
  clear l0 l1 l2 r0 r1 r2 bx hd
  have aslc : ∀ w, (isAgg 22).run Try.prog w = .ok false w := fun w => by kernel_rfl
  have af32 : ∀ w, (isAgg 102).run Try.prog w = .ok false w := fun w => by kernel_rfl
  obtain ⟨Tc, Tf⟩ := T.open
  obtain ⟨Fc, Ff⟩ := Fd.open
  cases wb with
  | true =>
    have HV : Hid (halfY true m k (nums e) (nums y) j = fop .add .f32 (nums y j) (fop .mul .f32 half32 (fop .sub .f32 (nums e dn) (nums e j)))) := Lib.hid HD.out
    go_enter Try.func151, Try.ntmps151
    go_wp2_with fail
    refine (specAtV g m k j _ _ _ v3 v4 _ T h1 h2 h3 h4 (by omega) (by omega) (by omega) (by omega) HJ).mono ?_
    rintro r u1 ⟨rfl, q1⟩
    clear Tc Tf Fc Ff
    replace T := T.later q1; replace Fd := Fd.later q1
    replace F0 := Lib.hid (cell_on F0.out q1); replace FD := Lib.hid (cell_on FD.out q1); replace F1 := Lib.hid (cell_on F1.out q1)
    have HB := Lib.hid q1; clear q1
    obtain ⟨Tc, Tf⟩ := T.open
    obtain ⟨Fc, Ff⟩ := Fd.open
    go_wp2_with fail
    refine wp_region_relC (Grows u1) (fun _ _ v => v = .int .i64 (dn : Int)) (by kernel_rfl) (by kernel_rfl) (Grows.drew _) ?_
    (refine wpRel_plain rfl rfl ?_; intro K hK; go_big_quiet_op; (first | go_big_quiet_on | (refine ⟨_, fun _ _ => rfl, ?_⟩; go_big_quiet_on)))
    (refine wpRel_nilCheck rfl _ rfl ?_; simp only [Act.put, List.setIfInBounds_toArray, List.set_cons_zero, List.set_cons_succ])
    (refine wpRel_plain rfl rfl ?_; intro K hK; go_big_quiet_op; (first | go_big_quiet_on | (refine ⟨_, fun _ _ => rfl, ?_⟩; go_big_quiet_on)))
    (refine wpRel_load rfl _ rfl (.slice (some ⟨b2, o2, none⟩) y.length c2) (load_cell aslc (Fc 2)) ?_; simp only [Act.put, List.setIfInBounds_toArray, List.set_cons_zero, List.set_cons_succ])
    (refine wpRel_plain rfl rfl ?_; intro K hK; go_big_quiet_op; (first | go_big_quiet_on | (refine ⟨_, fun _ _ => rfl, ?_⟩; go_big_quiet_on)))
    (refine wpRel_plain rfl rfl ?_; intro K hK; go_big_quiet_op; (first | go_big_quiet_on | (refine ⟨_, fun _ _ => rfl, ?_⟩; go_big_quiet_on)))
    (refine wpRel_load rfl _ rfl (.float .f32 (xj)) (load_cell af32 F1.out) ?_; simp only [Act.put, List.setIfInBounds_toArray, List.set_cons_zero, List.set_cons_succ])
    (refine wpRel_plain rfl rfl ?_; intro K hK; go_big_quiet_op; (first | go_big_quiet_on | (refine ⟨_, fun _ _ => rfl, ?_⟩; go_big_quiet_on)))
    (refine wpRel_nilCheck rfl _ rfl ?_; simp only [Act.put, List.setIfInBounds_toArray, List.set_cons_zero, List.set_cons_succ])
    (refine wpRel_plain rfl rfl ?_; intro K hK; go_big_quiet_op; (first | go_big_quiet_on | (refine ⟨_, fun _ _ => rfl, ?_⟩; go_big_quiet_on)))
    (refine wpRel_load rfl _ rfl (.slice (some ⟨b0, o0, none⟩) e.length c0) (load_cell aslc (Fc 0)) ?_; simp only [Act.put, List.setIfInBounds_toArray, List.set_cons_zero, List.set_cons_succ])
    (refine wpRel_plain rfl rfl ?_; intro K hK; go_big_quiet_op; (first | go_big_quiet_on | (refine ⟨_, fun _ _ => rfl, ?_⟩; go_big_quiet_on)))
    (refine wpRel_plain rfl rfl ?_; intro K hK; go_big_quiet_op; (first | go_big_quiet_on | (refine ⟨_, fun _ _ => rfl, ?_⟩; go_big_quiet_on)))
    (refine wpRel_plain rfl rfl ?_; intro K hK; go_big_quiet_op; (first | go_big_quiet_on | (refine ⟨_, fun _ _ => rfl, ?_⟩; go_big_quiet_on)))
    (refine wpRel_plain rfl rfl ?_; intro K hK; go_big_quiet_op; (first | go_big_quiet_on | (refine ⟨_, fun _ _ => rfl, ?_⟩; go_big_quiet_on)))
    (refine wpRel_callC rfl 129 _ rfl Try.func129 (by kernel_rfl) (by kernel_rfl) [.pointer (some ⟨g, 0, none⟩), .int .i64 ((p : Int) + 1), .int .i64 (q : Int)] rfl (fun w' hw' => (specAtV g m k dn _ _ true v3 v4 w' (T.later hw') h1 h2 h3 h4 (by omega) (by omega) (by omega) (by omega) HZ).mono (by rintro e w'' ⟨rfl, q9⟩; exact ⟨_, rfl, rfl, Grows.next hw' q9⟩)) ?_; intro v hv; obtain rfl := hv; simp only [Act.put, List.setIfInBounds_toArray, List.set_cons_zero, List.set_cons_succ])
    (refine wpRel_plain rfl rfl ?_; intro K hK; go_big_quiet_op; (first | go_big_quiet_on | (refine ⟨_, fun _ _ => rfl, ?_⟩; go_big_quiet_on)))
    (refine wpRel_load rfl _ rfl (.float .f32 (ed)) (load_cell af32 FD.out) ?_; simp only [Act.put, List.setIfInBounds_toArray, List.set_cons_zero, List.set_cons_succ])
    (refine wpRel_plain rfl rfl ?_; intro K hK; go_big_quiet_op; (first | go_big_quiet_on | (refine ⟨_, fun _ _ => rfl, ?_⟩; go_big_quiet_on)))
    (refine wpRel_nilCheck rfl _ rfl ?_; simp only [Act.put, List.setIfInBounds_toArray, List.set_cons_zero, List.set_cons_succ])
    (refine wpRel_plain rfl rfl ?_; intro K hK; go_big_quiet_op; (first | go_big_quiet_on | (refine ⟨_, fun _ _ => rfl, ?_⟩; go_big_quiet_on)))
    (refine wpRel_load rfl _ rfl (.slice (some ⟨b0, o0, none⟩) e.length c0) (load_cell aslc (Fc 0)) ?_; simp only [Act.put, List.setIfInBounds_toArray, List.set_cons_zero, List.set_cons_succ])
    (refine wpRel_plain rfl rfl ?_; intro K hK; go_big_quiet_op; (first | go_big_quiet_on | (refine ⟨_, fun _ _ => rfl, ?_⟩; go_big_quiet_on)))
    (refine wpRel_plain rfl rfl ?_; intro K hK; go_big_quiet_op; (first | go_big_quiet_on | (refine ⟨_, fun _ _ => rfl, ?_⟩; go_big_quiet_on)))
    (refine wpRel_load rfl _ rfl (.float .f32 (ej)) (load_cell af32 F0.out) ?_; simp only [Act.put, List.setIfInBounds_toArray, List.set_cons_zero, List.set_cons_succ])
    (refine wpRel_arithC rfl rfl (fun _ n h => Grows.drewN n h) .f32 _ _ rfl rfl ?_; intro a1 hc_a1 hb_a1; have H_a1 := Lib.hid hc_a1; clear hc_a1; replace hb_a1 : a1 < 2 ^ 32 := hb_a1; simp only [Act.put, List.setIfInBounds_toArray, List.set_cons_zero, List.set_cons_succ])
    (refine wpRel_arithC rfl rfl (fun _ n h => Grows.drewN n h) .f32 _ _ rfl rfl ?_; intro a2 hc_a2 hb_a2; have H_a2 := Lib.hid hc_a2; clear hc_a2; replace hb_a2 : a2 < 2 ^ 32 := hb_a2; simp only [Act.put, List.setIfInBounds_toArray, List.set_cons_zero, List.set_cons_succ])
    (refine wpRel_arithC rfl rfl (fun _ n h => Grows.drewN n h) .f32 _ _ rfl rfl ?_; intro a3 hc_a3 hb_a3; have H_a3 := Lib.hid hc_a3; clear hc_a3; replace hb_a3 : a3 < 2 ^ 32 := hb_a3; simp only [Act.put, List.setIfInBounds_toArray, List.set_cons_zero, List.set_cons_succ])
    (refine wpRel_plain rfl rfl ?_; intro K hK; go_big_quiet_op; (first | go_big_quiet_on | (refine ⟨_, fun _ _ => rfl, ?_⟩; go_big_quiet_on)))
    refine wpRel_nil ?_
    intro u2 q2
    go_wp2
    go_ret
    exact ⟨a3, rfl, by rw [HV.out, H_a3.out, H_a2.out, H_a1.out, NX.out, NE.out, ND.out], hb_a3, HB.out.trans (Below.mono q2 HB.out.size)⟩
  | false =>
    by_cases hl : (p : Int) = (m : Int) - 1
    · skip
      have HV : Hid (halfY false m k (nums e) (nums y) j = nums y j) := Lib.hid (by rw [HD.out, if_pos (show besideB false _ _ = true by unfold besideB; simp [hl])])
      have hb : ((p : Int) == (m : Int) - 1) = true := by simp [hl]
      have hl2 := Lib.hid hl; clear hl
      go_enter Try.func151, Try.ntmps151
      go_wp2_with fail
      refine (specAtV g m k j _ _ _ v3 v4 _ T h1 h2 h3 h4 (by omega) (by omega) (by omega) (by omega) HJ).mono ?_
      rintro r u1 ⟨rfl, q1⟩
      clear Tc Tf Fc Ff
      replace T := T.later q1; replace Fd := Fd.later q1
      replace F0 := Lib.hid (cell_on F0.out q1); replace FD := Lib.hid (cell_on FD.out q1); replace F1 := Lib.hid (cell_on F1.out q1)
      have HB := Lib.hid q1; clear q1
      obtain ⟨Tc, Tf⟩ := T.open
      obtain ⟨Fc, Ff⟩ := Fd.open
      have f1 := F1.out
      go_wp2
      go_ret
      exact ⟨xj, rfl, by rw [HV.out, NX.out], XLT.out, HB.out⟩
    · skip
      have HV : Hid (halfY false m k (nums e) (nums y) j = fop .add .f32 (nums y j) (fop .mul .f32 half32 (fop .sub .f32 (nums e dn) (nums e j)))) := Lib.hid (by rw [HD.out, if_neg (by unfold besideB; simp [hl])])
      have hb : ((p : Int) == (m : Int) - 1) = false := by simp [hl]
      have hl2 := Lib.hid hl; clear hl
      go_enter Try.func151, Try.ntmps151
      go_wp2_with fail
      refine (specAtV g m k j _ _ _ v3 v4 _ T h1 h2 h3 h4 (by omega) (by omega) (by omega) (by omega) HJ).mono ?_
      rintro r u1 ⟨rfl, q1⟩
      clear Tc Tf Fc Ff
      replace T := T.later q1; replace Fd := Fd.later q1
      replace F0 := Lib.hid (cell_on F0.out q1); replace FD := Lib.hid (cell_on FD.out q1); replace F1 := Lib.hid (cell_on F1.out q1)
      have HB := Lib.hid q1; clear q1
      obtain ⟨Tc, Tf⟩ := T.open
      obtain ⟨Fc, Ff⟩ := Fd.open
      go_wp2_with fail
      refine wp_region_relC (Grows u1) (fun _ _ v => v = .int .i64 (dn : Int)) (by kernel_rfl) (by kernel_rfl) (Grows.drew _) ?_
      (refine wpRel_plain rfl rfl ?_; intro K hK; go_big_quiet_op; (first | go_big_quiet_on | (refine ⟨_, fun _ _ => rfl, ?_⟩; go_big_quiet_on)))
      (refine wpRel_nilCheck rfl _ rfl ?_; simp only [Act.put, List.setIfInBounds_toArray, List.set_cons_zero, List.set_cons_succ])
      (refine wpRel_plain rfl rfl ?_; intro K hK; go_big_quiet_op; (first | go_big_quiet_on | (refine ⟨_, fun _ _ => rfl, ?_⟩; go_big_quiet_on)))
      (refine wpRel_load rfl _ rfl (.slice (some ⟨b2, o2, none⟩) y.length c2) (load_cell aslc (Fc 2)) ?_; simp only [Act.put, List.setIfInBounds_toArray, List.set_cons_zero, List.set_cons_succ])
      (refine wpRel_plain rfl rfl ?_; intro K hK; go_big_quiet_op; (first | go_big_quiet_on | (refine ⟨_, fun _ _ => rfl, ?_⟩; go_big_quiet_on)))
      (refine wpRel_plain rfl rfl ?_; intro K hK; go_big_quiet_op; (first | go_big_quiet_on | (refine ⟨_, fun _ _ => rfl, ?_⟩; go_big_quiet_on)))
      (refine wpRel_load rfl _ rfl (.float .f32 (xj)) (load_cell af32 F1.out) ?_; simp only [Act.put, List.setIfInBounds_toArray, List.set_cons_zero, List.set_cons_succ])
      (refine wpRel_plain rfl rfl ?_; intro K hK; go_big_quiet_op; (first | go_big_quiet_on | (refine ⟨_, fun _ _ => rfl, ?_⟩; go_big_quiet_on)))
      (refine wpRel_nilCheck rfl _ rfl ?_; simp only [Act.put, List.setIfInBounds_toArray, List.set_cons_zero, List.set_cons_succ])
      (refine wpRel_plain rfl rfl ?_; intro K hK; go_big_quiet_op; (first | go_big_quiet_on | (refine ⟨_, fun _ _ => rfl, ?_⟩; go_big_quiet_on)))
      (refine wpRel_load rfl _ rfl (.slice (some ⟨b0, o0, none⟩) e.length c0) (load_cell aslc (Fc 0)) ?_; simp only [Act.put, List.setIfInBounds_toArray, List.set_cons_zero, List.set_cons_succ])
      (refine wpRel_plain rfl rfl ?_; intro K hK; go_big_quiet_op; (first | go_big_quiet_on | (refine ⟨_, fun _ _ => rfl, ?_⟩; go_big_quiet_on)))
      (refine wpRel_plain rfl rfl ?_; intro K hK; go_big_quiet_op; (first | go_big_quiet_on | (refine ⟨_, fun _ _ => rfl, ?_⟩; go_big_quiet_on)))
      (refine wpRel_plain rfl rfl ?_; intro K hK; go_big_quiet_op; (first | go_big_quiet_on | (refine ⟨_, fun _ _ => rfl, ?_⟩; go_big_quiet_on)))
      (refine wpRel_plain rfl rfl ?_; intro K hK; go_big_quiet_op; (first | go_big_quiet_on | (refine ⟨_, fun _ _ => rfl, ?_⟩; go_big_quiet_on)))
      (refine wpRel_callC rfl 129 _ rfl Try.func129 (by kernel_rfl) (by kernel_rfl) [.pointer (some ⟨g, 0, none⟩), .int .i64 ((p : Int) + 1), .int .i64 (q : Int)] rfl (fun w' hw' => (specAtV g m k dn _ _ false v3 v4 w' (T.later hw') h1 h2 h3 h4 (by omega) (by omega) (by omega) (by omega) HZ).mono (by rintro e w'' ⟨rfl, q9⟩; exact ⟨_, rfl, rfl, Grows.next hw' q9⟩)) ?_; intro v hv; obtain rfl := hv; simp only [Act.put, List.setIfInBounds_toArray, List.set_cons_zero, List.set_cons_succ])
      (refine wpRel_plain rfl rfl ?_; intro K hK; go_big_quiet_op; (first | go_big_quiet_on | (refine ⟨_, fun _ _ => rfl, ?_⟩; go_big_quiet_on)))
      (refine wpRel_load rfl _ rfl (.float .f32 (ed)) (load_cell af32 FD.out) ?_; simp only [Act.put, List.setIfInBounds_toArray, List.set_cons_zero, List.set_cons_succ])
      (refine wpRel_plain rfl rfl ?_; intro K hK; go_big_quiet_op; (first | go_big_quiet_on | (refine ⟨_, fun _ _ => rfl, ?_⟩; go_big_quiet_on)))
      (refine wpRel_nilCheck rfl _ rfl ?_; simp only [Act.put, List.setIfInBounds_toArray, List.set_cons_zero, List.set_cons_succ])
      (refine wpRel_plain rfl rfl ?_; intro K hK; go_big_quiet_op; (first | go_big_quiet_on | (refine ⟨_, fun _ _ => rfl, ?_⟩; go_big_quiet_on)))
      (refine wpRel_load rfl _ rfl (.slice (some ⟨b0, o0, none⟩) e.length c0) (load_cell aslc (Fc 0)) ?_; simp only [Act.put, List.setIfInBounds_toArray, List.set_cons_zero, List.set_cons_succ])
      (refine wpRel_plain rfl rfl ?_; intro K hK; go_big_quiet_op; (first | go_big_quiet_on | (refine ⟨_, fun _ _ => rfl, ?_⟩; go_big_quiet_on)))
      (refine wpRel_plain rfl rfl ?_; intro K hK; go_big_quiet_op; (first | go_big_quiet_on | (refine ⟨_, fun _ _ => rfl, ?_⟩; go_big_quiet_on)))
      (refine wpRel_load rfl _ rfl (.float .f32 (ej)) (load_cell af32 F0.out) ?_; simp only [Act.put, List.setIfInBounds_toArray, List.set_cons_zero, List.set_cons_succ])
      (refine wpRel_arithC rfl rfl (fun _ n h => Grows.drewN n h) .f32 _ _ rfl rfl ?_; intro a1 hc_a1 hb_a1; have H_a1 := Lib.hid hc_a1; clear hc_a1; replace hb_a1 : a1 < 2 ^ 32 := hb_a1; simp only [Act.put, List.setIfInBounds_toArray, List.set_cons_zero, List.set_cons_succ])
      (refine wpRel_arithC rfl rfl (fun _ n h => Grows.drewN n h) .f32 _ _ rfl rfl ?_; intro a2 hc_a2 hb_a2; have H_a2 := Lib.hid hc_a2; clear hc_a2; replace hb_a2 : a2 < 2 ^ 32 := hb_a2; simp only [Act.put, List.setIfInBounds_toArray, List.set_cons_zero, List.set_cons_succ])
      (refine wpRel_arithC rfl rfl (fun _ n h => Grows.drewN n h) .f32 _ _ rfl rfl ?_; intro a3 hc_a3 hb_a3; have H_a3 := Lib.hid hc_a3; clear hc_a3; replace hb_a3 : a3 < 2 ^ 32 := hb_a3; simp only [Act.put, List.setIfInBounds_toArray, List.set_cons_zero, List.set_cons_succ])
      (refine wpRel_plain rfl rfl ?_; intro K hK; go_big_quiet_op; (first | go_big_quiet_on | (refine ⟨_, fun _ _ => rfl, ?_⟩; go_big_quiet_on)))
      refine wpRel_nil ?_
      intro u2 q2
      go_wp2
      go_ret
      exact ⟨a3, rfl, by rw [HV.out, H_a3.out, H_a2.out, H_a1.out, NX.out, NE.out, ND.out], hb_a3, HB.out.trans (Below.mono q2 HB.out.size)⟩

end Go.Proofs.Ytedfbaeajofmnaa

end

section

namespace Go.Proofs.Ytedfbaeajofmnaa
open Go Ieee Go.RowKit
set_option linter.unusedVariables false

set_option maxHeartbeats 16000000 in
set_option maxRecDepth 100000 in
theorem specRest (g gf m k n p q j ba oa ca bb ob cb b0 b1 b2 o0 o1 o2 c0 c1 c2 : Nat) (wb : Bool) (xs ys e x y : List Nat) (w : World) (T : Blk w g #[.int .i64 (m : Int), .int .i64 (k : Int), .bool wb, .slice (some ⟨ba, oa, none⟩) xs.length ca, .slice (some ⟨bb, ob, none⟩) ys.length cb] 29) (Fd : Blk w gf #[.slice (some ⟨b0, o0, none⟩) e.length c0, .slice (some ⟨b1, o1, none⟩) x.length c1, .slice (some ⟨b2, o2, none⟩) y.length c2] 38) (ra : RowV w (some ⟨ba, oa, none⟩) (fvals xs)) (rb : RowV w (some ⟨bb, ob, none⟩) (fvals ys)) (la : xs.length = n) (lb : ys.length = n) (r0 : RowV w (some ⟨b0, o0, none⟩) (fvals e)) (r1 : RowV w (some ⟨b1, o1, none⟩) (fvals x)) (r2 : RowV w (some ⟨b2, o2, none⟩) (fvals y)) (l0 : e.length = n) (l1 : x.length = n) (l2 : y.length = n) (bx : ∀ z ∈ e, z < 2 ^ 32) (h1 : 3 ≤ m) (h2 : m ≤ 16) (h3 : 3 ≤ k) (h4 : k ≤ 16) (hp : p < m) (hq : q < k) (hj : p + m * q = j) (hn : Hid (n = m * k)) :
    Calls Try.prog 128 #[.pointer (some ⟨g, 0, none⟩), .pointer (some ⟨gf, 0, none⟩), .int .i64 (p : Int), .int .i64 (q : Int)] w fun r w' => ∃ v, r = .returned (.float .f32 v) ∧ canon .f32 v = restE wb m k (nums xs) (nums ys) (nums e) (nums x) (nums y) j ∧ v < 2 ^ 32 ∧ Below w.heap.size w w' := by
  have hjn : j < n := by rw [hn.out, ← hj]; exact place_lt hp hq
  have h0 : 0 < m := by omega
  have h0k : 0 < k := by omega
  have ejm : j % m = p := by rw [← hj, Nat.add_mul_mod_self_left, Nat.mod_eq_of_lt hp]
  have ejd : j / m = q := by rw [← hj, Nat.add_mul_div_left _ _ h0, Nat.div_eq_of_lt hp, Nat.zero_add]
  have hD : restE wb m k (nums xs) (nums ys) (nums e) (nums x) (nums y) j = if bordB wb (m : Int) (k : Int) ((j % m : Nat) : Int) ((j / m : Nat) : Int) then nums e j else fop .add .f32 (fop .mul .f32 (nums e j) (fop .sub .f32 one32 (nums ys j))) (fop .mul .f32 (nums xs j) (fop .sub .f32 (fop .sub .f32 (nums y j) (nums y (lfI m j))) (fop .sub .f32 (nums x j) (nums x (upI m k j))))) := rfl
  have hdu : upI m k j < n := by rw [hn.out]; exact up_lt h0 h0k
  have hdl : lfI m j < n := by rw [hn.out]; exact lf_lt h0 (by rw [← hn.out]; exact hjn)
  have hU : upI m k j = p + m * ((q + (k - 1)) % k) := by show j % m + m * ((j / m + (k - 1)) % k) = _; rw [ejm, ejd]
  have hL : lfI m j = (p + (m - 1)) % m + m * q := by show (j % m + (m - 1)) % m + m * (j / m) = _; rw [ejm, ejd]
  rw [ejm, ejd] at hD
  clear ejm ejd
  have HJ := Lib.hid (place_here hp hq hj)
  generalize upI m k j = up at *
  generalize lfI m j = lf at *
  have HZU := Lib.hid (place_up (j := up) h1 h3 hp hq hU.symm); have HZL := Lib.hid (place_lf (j := lf) h1 h3 hp hq hL.symm)
  have HD := Lib.hid hD; clear hD hU hL
  have FE := Lib.hid (row_num r0 (show j < e.length by omega)); have iFE : (j : Int) < (e.length : Int) := (by omega); have NFE : Hid (nums e j = canon .f32 (e.getD j 0)) := Lib.hid rfl
  have FX := Lib.hid (row_num r1 (show j < x.length by omega)); have iFX : (j : Int) < (x.length : Int) := (by omega); have NFX : Hid (nums x j = canon .f32 (x.getD j 0)) := Lib.hid rfl
  have FU := Lib.hid (row_num r1 (show up < x.length by omega)); have iFU : (up : Int) < (x.length : Int) := (by omega); have NFU : Hid (nums x up = canon .f32 (x.getD up 0)) := Lib.hid rfl
  have FY := Lib.hid (row_num r2 (show j < y.length by omega)); have iFY : (j : Int) < (y.length : Int) := (by omega); have NFY : Hid (nums y j = canon .f32 (y.getD j 0)) := Lib.hid rfl
  have FL := Lib.hid (row_num r2 (show lf < y.length by omega)); have iFL : (lf : Int) < (y.length : Int) := (by omega); have NFL : Hid (nums y lf = canon .f32 (y.getD lf 0)) := Lib.hid rfl
  have FS := Lib.hid (row_num ra (show j < xs.length by omega)); have iFS : (j : Int) < (xs.length : Int) := (by omega); have NFS : Hid (nums xs j = canon .f32 (xs.getD j 0)) := Lib.hid rfl
  have FO := Lib.hid (row_num rb (show j < ys.length by omega)); have iFO : (j : Int) < (ys.length : Int) := (by omega); have NFO : Hid (nums ys j = canon .f32 (ys.getD j 0)) := Lib.hid rfl
  have XLT := Lib.hid (getD_lt bx j)
  generalize e.getD j 0 = ej at *
  generalize x.getD j 0 = xj at *
  generalize x.getD up 0 = xu at *
  generalize y.getD j 0 = yj at *
  generalize y.getD lf 0 = yl at *
  generalize xs.getD j 0 = sj at *
  generalize ys.getD j 0 = oj at *
  clear l0 l1 l2 la lb r0 r1 r2 ra rb bx hdu hdl
  have aslc : ∀ w, (isAgg 22).run Try.prog w = .ok false w := fun w => by kernel_rfl
  have af32 : ∀ w, (isAgg 102).run Try.prog w = .ok false w := fun w => by kernel_rfl
  obtain ⟨Tc, Tf⟩ := T.open
  obtain ⟨Fc, Ff⟩ := Fd.open
  cases wb with
  | true =>
    have HV : Hid (restE true m k (nums xs) (nums ys) (nums e) (nums x) (nums y) j = fop .add .f32 (fop .mul .f32 (nums e j) (fop .sub .f32 one32 (nums ys j))) (fop .mul .f32 (nums xs j) (fop .sub .f32 (fop .sub .f32 (nums y j) (nums y lf)) (fop .sub .f32 (nums x j) (nums x up))))) := Lib.hid HD.out
    go_enter Try.func128, Try.ntmps128
    go_wp2_with fail
    refine (specAtV g m k j _ _ _ _ _ _ T h1 h2 h3 h4 (by omega) (by omega) (by omega) (by omega) HJ).mono ?_
    rintro r u1 ⟨rfl, q1⟩
    clear Tc Tf Fc Ff
    replace T := T.later q1; replace Fd := Fd.later q1
    replace FE := Lib.hid (cell_on FE.out q1)
    replace FX := Lib.hid (cell_on FX.out q1)
    replace FU := Lib.hid (cell_on FU.out q1)
    replace FY := Lib.hid (cell_on FY.out q1)
    replace FL := Lib.hid (cell_on FL.out q1)
    replace FS := Lib.hid (cell_on FS.out q1)
    replace FO := Lib.hid (cell_on FO.out q1)
    have HB := Lib.hid q1; clear q1
    obtain ⟨Tc, Tf⟩ := T.open
    obtain ⟨Fc, Ff⟩ := Fd.open
    go_wp2_with fail
    refine wp_region_relC (Grows u1) (fun _ _ v => v = .int .i64 (lf : Int)) (by kernel_rfl) (by kernel_rfl) (Grows.drew _) ?_
    (refine wpRel_plain rfl rfl ?_; intro K hK; go_big_quiet_op; (first | go_big_quiet_on | (refine ⟨_, fun _ _ => rfl, ?_⟩; go_big_quiet_on)))
    (refine wpRel_nilCheck rfl _ rfl ?_; simp only [Act.put, List.setIfInBounds_toArray, List.set_cons_zero, List.set_cons_succ])
    (refine wpRel_plain rfl rfl ?_; intro K hK; go_big_quiet_op; (first | go_big_quiet_on | (refine ⟨_, fun _ _ => rfl, ?_⟩; go_big_quiet_on)))
    (refine wpRel_load rfl _ rfl (.slice (some ⟨b2, o2, none⟩) y.length c2) (load_cell aslc (Fc 2)) ?_; simp only [Act.put, List.setIfInBounds_toArray, List.set_cons_zero, List.set_cons_succ])
    (refine wpRel_plain rfl rfl ?_; intro K hK; go_big_quiet_op; (first | go_big_quiet_on | (refine ⟨_, fun _ _ => rfl, ?_⟩; go_big_quiet_on)))
    (refine wpRel_plain rfl rfl ?_; intro K hK; go_big_quiet_op; (first | go_big_quiet_on | (refine ⟨_, fun _ _ => rfl, ?_⟩; go_big_quiet_on)))
    (refine wpRel_load rfl _ rfl (.float .f32 (yj)) (load_cell af32 FY.out) ?_; simp only [Act.put, List.setIfInBounds_toArray, List.set_cons_zero, List.set_cons_succ])
    (refine wpRel_plain rfl rfl ?_; intro K hK; go_big_quiet_op; (first | go_big_quiet_on | (refine ⟨_, fun _ _ => rfl, ?_⟩; go_big_quiet_on)))
    (refine wpRel_nilCheck rfl _ rfl ?_; simp only [Act.put, List.setIfInBounds_toArray, List.set_cons_zero, List.set_cons_succ])
    (refine wpRel_plain rfl rfl ?_; intro K hK; go_big_quiet_op; (first | go_big_quiet_on | (refine ⟨_, fun _ _ => rfl, ?_⟩; go_big_quiet_on)))
    (refine wpRel_load rfl _ rfl (.slice (some ⟨b2, o2, none⟩) y.length c2) (load_cell aslc (Fc 2)) ?_; simp only [Act.put, List.setIfInBounds_toArray, List.set_cons_zero, List.set_cons_succ])
    (refine wpRel_plain rfl rfl ?_; intro K hK; go_big_quiet_op; (first | go_big_quiet_on | (refine ⟨_, fun _ _ => rfl, ?_⟩; go_big_quiet_on)))
    (refine wpRel_plain rfl rfl ?_; intro K hK; go_big_quiet_op; (first | go_big_quiet_on | (refine ⟨_, fun _ _ => rfl, ?_⟩; go_big_quiet_on)))
    (refine wpRel_plain rfl rfl ?_; intro K hK; go_big_quiet_op; (first | go_big_quiet_on | (refine ⟨_, fun _ _ => rfl, ?_⟩; go_big_quiet_on)))
    (refine wpRel_plain rfl rfl ?_; intro K hK; go_big_quiet_op; (first | go_big_quiet_on | (refine ⟨_, fun _ _ => rfl, ?_⟩; go_big_quiet_on)))
    (refine wpRel_callC rfl 129 _ rfl Try.func129 (by kernel_rfl) (by kernel_rfl) [.pointer (some ⟨g, 0, none⟩), .int .i64 ((p : Int) - 1), .int .i64 (q : Int)] rfl (fun w' hw' => (specAtV g m k lf _ _ true _ _ w' (T.later hw') h1 h2 h3 h4 (by omega) (by omega) (by omega) (by omega) HZL).mono (by rintro e w'' ⟨rfl, q9⟩; exact ⟨_, rfl, rfl, Grows.next hw' q9⟩)) ?_; intro v hv; obtain rfl := hv; simp only [Act.put, List.setIfInBounds_toArray, List.set_cons_zero, List.set_cons_succ])
    (refine wpRel_plain rfl rfl ?_; intro K hK; go_big_quiet_op; (first | go_big_quiet_on | (refine ⟨_, fun _ _ => rfl, ?_⟩; go_big_quiet_on)))
    (refine wpRel_load rfl _ rfl (.float .f32 (yl)) (load_cell af32 FL.out) ?_; simp only [Act.put, List.setIfInBounds_toArray, List.set_cons_zero, List.set_cons_succ])
    (refine wpRel_arithC rfl rfl (fun _ n h => Grows.drewN n h) .f32 _ _ rfl rfl ?_; intro a1 hc_a1 hb_a1; have H_a1 := Lib.hid hc_a1; clear hc_a1; replace hb_a1 : a1 < 2 ^ 32 := hb_a1; simp only [Act.put, List.setIfInBounds_toArray, List.set_cons_zero, List.set_cons_succ])
    (refine wpRel_plain rfl rfl ?_; intro K hK; go_big_quiet_op; (first | go_big_quiet_on | (refine ⟨_, fun _ _ => rfl, ?_⟩; go_big_quiet_on)))
    refine wpRel_nil ?_
    intro u2 b_u2
    replace b_u2 : Below u1.heap.size u1 u2 := b_u2
    clear Tc Tf Fc Ff
    replace T := T.later b_u2; replace Fd := Fd.later b_u2
    replace FE := Lib.hid (cell_on FE.out b_u2)
    replace FX := Lib.hid (cell_on FX.out b_u2)
    replace FU := Lib.hid (cell_on FU.out b_u2)
    replace FY := Lib.hid (cell_on FY.out b_u2)
    replace FL := Lib.hid (cell_on FL.out b_u2)
    replace FS := Lib.hid (cell_on FS.out b_u2)
    replace FO := Lib.hid (cell_on FO.out b_u2)
    replace HB := Lib.hid (HB.out.trans (b_u2.mono HB.out.size)); clear b_u2
    obtain ⟨Tc, Tf⟩ := T.open
    obtain ⟨Fc, Ff⟩ := Fd.open
    go_wp2_with fail
    refine wp_region_relC (Grows u2) (fun _ _ v => v = .int .i64 (up : Int)) (by kernel_rfl) (by kernel_rfl) (Grows.drew _) ?_
    (refine wpRel_plain rfl rfl ?_; intro K hK; go_big_quiet_op; (first | go_big_quiet_on | (refine ⟨_, fun _ _ => rfl, ?_⟩; go_big_quiet_on)))
    (refine wpRel_nilCheck rfl _ rfl ?_; simp only [Act.put, List.setIfInBounds_toArray, List.set_cons_zero, List.set_cons_succ])
    (refine wpRel_plain rfl rfl ?_; intro K hK; go_big_quiet_op; (first | go_big_quiet_on | (refine ⟨_, fun _ _ => rfl, ?_⟩; go_big_quiet_on)))
    (refine wpRel_load rfl _ rfl (.slice (some ⟨b1, o1, none⟩) x.length c1) (load_cell aslc (Fc 1)) ?_; simp only [Act.put, List.setIfInBounds_toArray, List.set_cons_zero, List.set_cons_succ])
    (refine wpRel_plain rfl rfl ?_; intro K hK; go_big_quiet_op; (first | go_big_quiet_on | (refine ⟨_, fun _ _ => rfl, ?_⟩; go_big_quiet_on)))
    (refine wpRel_plain rfl rfl ?_; intro K hK; go_big_quiet_op; (first | go_big_quiet_on | (refine ⟨_, fun _ _ => rfl, ?_⟩; go_big_quiet_on)))
    (refine wpRel_load rfl _ rfl (.float .f32 (xj)) (load_cell af32 FX.out) ?_; simp only [Act.put, List.setIfInBounds_toArray, List.set_cons_zero, List.set_cons_succ])
    (refine wpRel_plain rfl rfl ?_; intro K hK; go_big_quiet_op; (first | go_big_quiet_on | (refine ⟨_, fun _ _ => rfl, ?_⟩; go_big_quiet_on)))
    (refine wpRel_nilCheck rfl _ rfl ?_; simp only [Act.put, List.setIfInBounds_toArray, List.set_cons_zero, List.set_cons_succ])
    (refine wpRel_plain rfl rfl ?_; intro K hK; go_big_quiet_op; (first | go_big_quiet_on | (refine ⟨_, fun _ _ => rfl, ?_⟩; go_big_quiet_on)))
    (refine wpRel_load rfl _ rfl (.slice (some ⟨b1, o1, none⟩) x.length c1) (load_cell aslc (Fc 1)) ?_; simp only [Act.put, List.setIfInBounds_toArray, List.set_cons_zero, List.set_cons_succ])
    (refine wpRel_plain rfl rfl ?_; intro K hK; go_big_quiet_op; (first | go_big_quiet_on | (refine ⟨_, fun _ _ => rfl, ?_⟩; go_big_quiet_on)))
    (refine wpRel_plain rfl rfl ?_; intro K hK; go_big_quiet_op; (first | go_big_quiet_on | (refine ⟨_, fun _ _ => rfl, ?_⟩; go_big_quiet_on)))
    (refine wpRel_plain rfl rfl ?_; intro K hK; go_big_quiet_op; (first | go_big_quiet_on | (refine ⟨_, fun _ _ => rfl, ?_⟩; go_big_quiet_on)))
    (refine wpRel_plain rfl rfl ?_; intro K hK; go_big_quiet_op; (first | go_big_quiet_on | (refine ⟨_, fun _ _ => rfl, ?_⟩; go_big_quiet_on)))
    (refine wpRel_callC rfl 129 _ rfl Try.func129 (by kernel_rfl) (by kernel_rfl) [.pointer (some ⟨g, 0, none⟩), .int .i64 (p : Int), .int .i64 ((q : Int) - 1)] rfl (fun w' hw' => (specAtV g m k up _ _ true _ _ w' (T.later hw') h1 h2 h3 h4 (by omega) (by omega) (by omega) (by omega) HZU).mono (by rintro e w'' ⟨rfl, q9⟩; exact ⟨_, rfl, rfl, Grows.next hw' q9⟩)) ?_; intro v hv; obtain rfl := hv; simp only [Act.put, List.setIfInBounds_toArray, List.set_cons_zero, List.set_cons_succ])
    (refine wpRel_plain rfl rfl ?_; intro K hK; go_big_quiet_op; (first | go_big_quiet_on | (refine ⟨_, fun _ _ => rfl, ?_⟩; go_big_quiet_on)))
    (refine wpRel_load rfl _ rfl (.float .f32 (xu)) (load_cell af32 FU.out) ?_; simp only [Act.put, List.setIfInBounds_toArray, List.set_cons_zero, List.set_cons_succ])
    (refine wpRel_arithC rfl rfl (fun _ n h => Grows.drewN n h) .f32 _ _ rfl rfl ?_; intro a2 hc_a2 hb_a2; have H_a2 := Lib.hid hc_a2; clear hc_a2; replace hb_a2 : a2 < 2 ^ 32 := hb_a2; simp only [Act.put, List.setIfInBounds_toArray, List.set_cons_zero, List.set_cons_succ])
    (refine wpRel_plain rfl rfl ?_; intro K hK; go_big_quiet_op; (first | go_big_quiet_on | (refine ⟨_, fun _ _ => rfl, ?_⟩; go_big_quiet_on)))
    refine wpRel_nil ?_
    intro u3 b_u3
    replace b_u3 : Below u2.heap.size u2 u3 := b_u3
    clear Tc Tf Fc Ff
    replace T := T.later b_u3; replace Fd := Fd.later b_u3
    replace FE := Lib.hid (cell_on FE.out b_u3)
    replace FX := Lib.hid (cell_on FX.out b_u3)
    replace FU := Lib.hid (cell_on FU.out b_u3)
    replace FY := Lib.hid (cell_on FY.out b_u3)
    replace FL := Lib.hid (cell_on FL.out b_u3)
    replace FS := Lib.hid (cell_on FS.out b_u3)
    replace FO := Lib.hid (cell_on FO.out b_u3)
    replace HB := Lib.hid (HB.out.trans (b_u3.mono HB.out.size)); clear b_u3
    obtain ⟨Tc, Tf⟩ := T.open
    obtain ⟨Fc, Ff⟩ := Fd.open
    go_wp2_with fail
    refine wp_region_relC (Grows u3) (fun _ _ _ => False) (by kernel_rfl) (by kernel_rfl) (Grows.drew _) ?_
    (refine wpRel_plain rfl rfl ?_; intro K hK; go_big_quiet_op; (first | go_big_quiet_on | (refine ⟨_, fun _ _ => rfl, ?_⟩; go_big_quiet_on)))
    (refine wpRel_nilCheck rfl _ rfl ?_; simp only [Act.put, List.setIfInBounds_toArray, List.set_cons_zero, List.set_cons_succ])
    (refine wpRel_plain rfl rfl ?_; intro K hK; go_big_quiet_op; (first | go_big_quiet_on | (refine ⟨_, fun _ _ => rfl, ?_⟩; go_big_quiet_on)))
    (refine wpRel_load rfl _ rfl (.slice (some ⟨b0, o0, none⟩) e.length c0) (load_cell aslc (Fc 0)) ?_; simp only [Act.put, List.setIfInBounds_toArray, List.set_cons_zero, List.set_cons_succ])
    (refine wpRel_plain rfl rfl ?_; intro K hK; go_big_quiet_op; (first | go_big_quiet_on | (refine ⟨_, fun _ _ => rfl, ?_⟩; go_big_quiet_on)))
    (refine wpRel_plain rfl rfl ?_; intro K hK; go_big_quiet_op; (first | go_big_quiet_on | (refine ⟨_, fun _ _ => rfl, ?_⟩; go_big_quiet_on)))
    (refine wpRel_load rfl _ rfl (.float .f32 (ej)) (load_cell af32 FE.out) ?_; simp only [Act.put, List.setIfInBounds_toArray, List.set_cons_zero, List.set_cons_succ])
    (refine wpRel_plain rfl rfl ?_; intro K hK; go_big_quiet_op; (first | go_big_quiet_on | (refine ⟨_, fun _ _ => rfl, ?_⟩; go_big_quiet_on)))
    (refine wpRel_nilCheck rfl _ rfl ?_; simp only [Act.put, List.setIfInBounds_toArray, List.set_cons_zero, List.set_cons_succ])
    (refine wpRel_plain rfl rfl ?_; intro K hK; go_big_quiet_op; (first | go_big_quiet_on | (refine ⟨_, fun _ _ => rfl, ?_⟩; go_big_quiet_on)))
    (refine wpRel_load rfl _ rfl (.slice (some ⟨bb, ob, none⟩) ys.length cb) (load_cell aslc (Tc 4)) ?_; simp only [Act.put, List.setIfInBounds_toArray, List.set_cons_zero, List.set_cons_succ])
    (refine wpRel_plain rfl rfl ?_; intro K hK; go_big_quiet_op; (first | go_big_quiet_on | (refine ⟨_, fun _ _ => rfl, ?_⟩; go_big_quiet_on)))
    (refine wpRel_plain rfl rfl ?_; intro K hK; go_big_quiet_op; (first | go_big_quiet_on | (refine ⟨_, fun _ _ => rfl, ?_⟩; go_big_quiet_on)))
    (refine wpRel_load rfl _ rfl (.float .f32 (oj)) (load_cell af32 FO.out) ?_; simp only [Act.put, List.setIfInBounds_toArray, List.set_cons_zero, List.set_cons_succ])
    (refine wpRel_arithC rfl rfl (fun _ n h => Grows.drewN n h) .f32 _ _ rfl rfl ?_; intro a3 hc_a3 hb_a3; have H_a3 := Lib.hid hc_a3; clear hc_a3; replace hb_a3 : a3 < 2 ^ 32 := hb_a3; simp only [Act.put, List.setIfInBounds_toArray, List.set_cons_zero, List.set_cons_succ])
    (refine wpRel_arithC rfl rfl (fun _ n h => Grows.drewN n h) .f32 _ _ rfl rfl ?_; intro a4 hc_a4 hb_a4; have H_a4 := Lib.hid hc_a4; clear hc_a4; replace hb_a4 : a4 < 2 ^ 32 := hb_a4; simp only [Act.put, List.setIfInBounds_toArray, List.set_cons_zero, List.set_cons_succ])
    (refine wpRel_plain rfl rfl ?_; intro K hK; go_big_quiet_op; (first | go_big_quiet_on | (refine ⟨_, fun _ _ => rfl, ?_⟩; go_big_quiet_on)))
    refine wpRel_nil ?_
    intro u4 b_u4
    replace b_u4 : Below u3.heap.size u3 u4 := b_u4
    clear Tc Tf Fc Ff
    replace T := T.later b_u4; replace Fd := Fd.later b_u4
    replace FE := Lib.hid (cell_on FE.out b_u4)
    replace FX := Lib.hid (cell_on FX.out b_u4)
    replace FU := Lib.hid (cell_on FU.out b_u4)
    replace FY := Lib.hid (cell_on FY.out b_u4)
    replace FL := Lib.hid (cell_on FL.out b_u4)
    replace FS := Lib.hid (cell_on FS.out b_u4)
    replace FO := Lib.hid (cell_on FO.out b_u4)
    replace HB := Lib.hid (HB.out.trans (b_u4.mono HB.out.size)); clear b_u4
    obtain ⟨Tc, Tf⟩ := T.open
    obtain ⟨Fc, Ff⟩ := Fd.open
    have fs := FS.out
    have tok5 : True := trivial
    have tok6 : True := trivial
    have tok7 : True := trivial
    go_wp2_with (first | (have _t := tok5; refine wpList_arith rfl _ _ _ _ _ rfl rfl .f32 _ _ rfl rfl ?_; intro a5 n5 hc hb_a5; replace hb_a5 : a5 < 2 ^ 32 := hb_a5; have H_a5 := Lib.hid hc; clear hc _t tok5) | (have _t := tok6; refine wpList_arith rfl _ _ _ _ _ rfl rfl .f32 _ _ rfl rfl ?_; intro a6 n6 hc hb_a6; replace hb_a6 : a6 < 2 ^ 32 := hb_a6; have H_a6 := Lib.hid hc; clear hc _t tok6) | (have _t := tok7; refine wpList_arith rfl _ _ _ _ _ rfl rfl .f32 _ _ rfl rfl ?_; intro a7 n7 hc hb_a7; replace hb_a7 : a7 < 2 ^ 32 := hb_a7; have H_a7 := Lib.hid hc; clear hc _t tok7))
    go_ret
    exact ⟨a7, rfl, by rw [HV.out, H_a7.out, H_a6.out, H_a5.out, H_a4.out, H_a3.out, H_a2.out, H_a1.out, NFE.out, NFX.out, NFU.out, NFY.out, NFL.out, NFS.out, NFO.out], hb_a7, below_drewN HB.out _⟩
  | false =>
    rcases hbd : bordB false (m : Int) (k : Int) (p : Int) (q : Int) with _ | _
    · skip
      have HV : Hid (restE false m k (nums xs) (nums ys) (nums e) (nums x) (nums y) j = fop .add .f32 (fop .mul .f32 (nums e j) (fop .sub .f32 one32 (nums ys j))) (fop .mul .f32 (nums xs j) (fop .sub .f32 (fop .sub .f32 (nums y j) (nums y lf)) (fop .sub .f32 (nums x j) (nums x up))))) := Lib.hid (by rw [HD.out, hbd]; rfl)
      replace hbd := Lib.hid hbd
      go_enter Try.func128, Try.ntmps128
      go_wp2_with fail
      refine (specAtV g m k j _ _ _ _ _ _ T h1 h2 h3 h4 (by omega) (by omega) (by omega) (by omega) HJ).mono ?_
      rintro r u1 ⟨rfl, q1⟩
      clear Tc Tf Fc Ff
      replace T := T.later q1; replace Fd := Fd.later q1
      replace FE := Lib.hid (cell_on FE.out q1)
      replace FX := Lib.hid (cell_on FX.out q1)
      replace FU := Lib.hid (cell_on FU.out q1)
      replace FY := Lib.hid (cell_on FY.out q1)
      replace FL := Lib.hid (cell_on FL.out q1)
      replace FS := Lib.hid (cell_on FS.out q1)
      replace FO := Lib.hid (cell_on FO.out q1)
      have HB := Lib.hid q1; clear q1
      obtain ⟨Tc, Tf⟩ := T.open
      obtain ⟨Fc, Ff⟩ := Fd.open
      go_wp2_with fail
      refine (specBorder g (m : Int) (k : Int) (p : Int) (q : Int) false _ _ _ T (by omega) (by omega) (by omega) (by omega)).mono ?_
      rintro r u1' ⟨rfl, rfl⟩
      rw [hbd.out]
      go_wp2_with fail
      refine wp_region_relC (Grows u1) (fun _ _ v => v = .int .i64 (lf : Int)) (by kernel_rfl) (by kernel_rfl) (Grows.drew _) ?_
      (refine wpRel_plain rfl rfl ?_; intro K hK; go_big_quiet_op; (first | go_big_quiet_on | (refine ⟨_, fun _ _ => rfl, ?_⟩; go_big_quiet_on)))
      (refine wpRel_nilCheck rfl _ rfl ?_; simp only [Act.put, List.setIfInBounds_toArray, List.set_cons_zero, List.set_cons_succ])
      (refine wpRel_plain rfl rfl ?_; intro K hK; go_big_quiet_op; (first | go_big_quiet_on | (refine ⟨_, fun _ _ => rfl, ?_⟩; go_big_quiet_on)))
      (refine wpRel_load rfl _ rfl (.slice (some ⟨b2, o2, none⟩) y.length c2) (load_cell aslc (Fc 2)) ?_; simp only [Act.put, List.setIfInBounds_toArray, List.set_cons_zero, List.set_cons_succ])
      (refine wpRel_plain rfl rfl ?_; intro K hK; go_big_quiet_op; (first | go_big_quiet_on | (refine ⟨_, fun _ _ => rfl, ?_⟩; go_big_quiet_on)))
      (refine wpRel_plain rfl rfl ?_; intro K hK; go_big_quiet_op; (first | go_big_quiet_on | (refine ⟨_, fun _ _ => rfl, ?_⟩; go_big_quiet_on)))
      (refine wpRel_load rfl _ rfl (.float .f32 (yj)) (load_cell af32 FY.out) ?_; simp only [Act.put, List.setIfInBounds_toArray, List.set_cons_zero, List.set_cons_succ])
      (refine wpRel_plain rfl rfl ?_; intro K hK; go_big_quiet_op; (first | go_big_quiet_on | (refine ⟨_, fun _ _ => rfl, ?_⟩; go_big_quiet_on)))
      (refine wpRel_nilCheck rfl _ rfl ?_; simp only [Act.put, List.setIfInBounds_toArray, List.set_cons_zero, List.set_cons_succ])
      (refine wpRel_plain rfl rfl ?_; intro K hK; go_big_quiet_op; (first | go_big_quiet_on | (refine ⟨_, fun _ _ => rfl, ?_⟩; go_big_quiet_on)))
      (refine wpRel_load rfl _ rfl (.slice (some ⟨b2, o2, none⟩) y.length c2) (load_cell aslc (Fc 2)) ?_; simp only [Act.put, List.setIfInBounds_toArray, List.set_cons_zero, List.set_cons_succ])
      (refine wpRel_plain rfl rfl ?_; intro K hK; go_big_quiet_op; (first | go_big_quiet_on | (refine ⟨_, fun _ _ => rfl, ?_⟩; go_big_quiet_on)))
      (refine wpRel_plain rfl rfl ?_; intro K hK; go_big_quiet_op; (first | go_big_quiet_on | (refine ⟨_, fun _ _ => rfl, ?_⟩; go_big_quiet_on)))
      (refine wpRel_plain rfl rfl ?_; intro K hK; go_big_quiet_op; (first | go_big_quiet_on | (refine ⟨_, fun _ _ => rfl, ?_⟩; go_big_quiet_on)))
      (refine wpRel_plain rfl rfl ?_; intro K hK; go_big_quiet_op; (first | go_big_quiet_on | (refine ⟨_, fun _ _ => rfl, ?_⟩; go_big_quiet_on)))
      (refine wpRel_callC rfl 129 _ rfl Try.func129 (by kernel_rfl) (by kernel_rfl) [.pointer (some ⟨g, 0, none⟩), .int .i64 ((p : Int) - 1), .int .i64 (q : Int)] rfl (fun w' hw' => (specAtV g m k lf _ _ false _ _ w' (T.later hw') h1 h2 h3 h4 (by omega) (by omega) (by omega) (by omega) HZL).mono (by rintro e w'' ⟨rfl, q9⟩; exact ⟨_, rfl, rfl, Grows.next hw' q9⟩)) ?_; intro v hv; obtain rfl := hv; simp only [Act.put, List.setIfInBounds_toArray, List.set_cons_zero, List.set_cons_succ])
      (refine wpRel_plain rfl rfl ?_; intro K hK; go_big_quiet_op; (first | go_big_quiet_on | (refine ⟨_, fun _ _ => rfl, ?_⟩; go_big_quiet_on)))
      (refine wpRel_load rfl _ rfl (.float .f32 (yl)) (load_cell af32 FL.out) ?_; simp only [Act.put, List.setIfInBounds_toArray, List.set_cons_zero, List.set_cons_succ])
      (refine wpRel_arithC rfl rfl (fun _ n h => Grows.drewN n h) .f32 _ _ rfl rfl ?_; intro a1 hc_a1 hb_a1; have H_a1 := Lib.hid hc_a1; clear hc_a1; replace hb_a1 : a1 < 2 ^ 32 := hb_a1; simp only [Act.put, List.setIfInBounds_toArray, List.set_cons_zero, List.set_cons_succ])
      (refine wpRel_plain rfl rfl ?_; intro K hK; go_big_quiet_op; (first | go_big_quiet_on | (refine ⟨_, fun _ _ => rfl, ?_⟩; go_big_quiet_on)))
      refine wpRel_nil ?_
      intro u2 b_u2
      replace b_u2 : Below u1.heap.size u1 u2 := b_u2
      clear Tc Tf Fc Ff
      replace T := T.later b_u2; replace Fd := Fd.later b_u2
      replace FE := Lib.hid (cell_on FE.out b_u2)
      replace FX := Lib.hid (cell_on FX.out b_u2)
      replace FU := Lib.hid (cell_on FU.out b_u2)
      replace FY := Lib.hid (cell_on FY.out b_u2)
      replace FL := Lib.hid (cell_on FL.out b_u2)
      replace FS := Lib.hid (cell_on FS.out b_u2)
      replace FO := Lib.hid (cell_on FO.out b_u2)
      replace HB := Lib.hid (HB.out.trans (b_u2.mono HB.out.size)); clear b_u2
      obtain ⟨Tc, Tf⟩ := T.open
      obtain ⟨Fc, Ff⟩ := Fd.open
      go_wp2_with fail
      refine wp_region_relC (Grows u2) (fun _ _ v => v = .int .i64 (up : Int)) (by kernel_rfl) (by kernel_rfl) (Grows.drew _) ?_
      (refine wpRel_plain rfl rfl ?_; intro K hK; go_big_quiet_op; (first | go_big_quiet_on | (refine ⟨_, fun _ _ => rfl, ?_⟩; go_big_quiet_on)))
      (refine wpRel_nilCheck rfl _ rfl ?_; simp only [Act.put, List.setIfInBounds_toArray, List.set_cons_zero, List.set_cons_succ])
      (refine wpRel_plain rfl rfl ?_; intro K hK; go_big_quiet_op; (first | go_big_quiet_on | (refine ⟨_, fun _ _ => rfl, ?_⟩; go_big_quiet_on)))
      (refine wpRel_load rfl _ rfl (.slice (some ⟨b1, o1, none⟩) x.length c1) (load_cell aslc (Fc 1)) ?_; simp only [Act.put, List.setIfInBounds_toArray, List.set_cons_zero, List.set_cons_succ])
      (refine wpRel_plain rfl rfl ?_; intro K hK; go_big_quiet_op; (first | go_big_quiet_on | (refine ⟨_, fun _ _ => rfl, ?_⟩; go_big_quiet_on)))
      (refine wpRel_plain rfl rfl ?_; intro K hK; go_big_quiet_op; (first | go_big_quiet_on | (refine ⟨_, fun _ _ => rfl, ?_⟩; go_big_quiet_on)))
      (refine wpRel_load rfl _ rfl (.float .f32 (xj)) (load_cell af32 FX.out) ?_; simp only [Act.put, List.setIfInBounds_toArray, List.set_cons_zero, List.set_cons_succ])
      (refine wpRel_plain rfl rfl ?_; intro K hK; go_big_quiet_op; (first | go_big_quiet_on | (refine ⟨_, fun _ _ => rfl, ?_⟩; go_big_quiet_on)))
      (refine wpRel_nilCheck rfl _ rfl ?_; simp only [Act.put, List.setIfInBounds_toArray, List.set_cons_zero, List.set_cons_succ])
      (refine wpRel_plain rfl rfl ?_; intro K hK; go_big_quiet_op; (first | go_big_quiet_on | (refine ⟨_, fun _ _ => rfl, ?_⟩; go_big_quiet_on)))
      (refine wpRel_load rfl _ rfl (.slice (some ⟨b1, o1, none⟩) x.length c1) (load_cell aslc (Fc 1)) ?_; simp only [Act.put, List.setIfInBounds_toArray, List.set_cons_zero, List.set_cons_succ])
      (refine wpRel_plain rfl rfl ?_; intro K hK; go_big_quiet_op; (first | go_big_quiet_on | (refine ⟨_, fun _ _ => rfl, ?_⟩; go_big_quiet_on)))
      (refine wpRel_plain rfl rfl ?_; intro K hK; go_big_quiet_op; (first | go_big_quiet_on | (refine ⟨_, fun _ _ => rfl, ?_⟩; go_big_quiet_on)))
      (refine wpRel_plain rfl rfl ?_; intro K hK; go_big_quiet_op; (first | go_big_quiet_on | (refine ⟨_, fun _ _ => rfl, ?_⟩; go_big_quiet_on)))
      (refine wpRel_plain rfl rfl ?_; intro K hK; go_big_quiet_op; (first | go_big_quiet_on | (refine ⟨_, fun _ _ => rfl, ?_⟩; go_big_quiet_on)))
      (refine wpRel_callC rfl 129 _ rfl Try.func129 (by kernel_rfl) (by kernel_rfl) [.pointer (some ⟨g, 0, none⟩), .int .i64 (p : Int), .int .i64 ((q : Int) - 1)] rfl (fun w' hw' => (specAtV g m k up _ _ false _ _ w' (T.later hw') h1 h2 h3 h4 (by omega) (by omega) (by omega) (by omega) HZU).mono (by rintro e w'' ⟨rfl, q9⟩; exact ⟨_, rfl, rfl, Grows.next hw' q9⟩)) ?_; intro v hv; obtain rfl := hv; simp only [Act.put, List.setIfInBounds_toArray, List.set_cons_zero, List.set_cons_succ])
      (refine wpRel_plain rfl rfl ?_; intro K hK; go_big_quiet_op; (first | go_big_quiet_on | (refine ⟨_, fun _ _ => rfl, ?_⟩; go_big_quiet_on)))
      (refine wpRel_load rfl _ rfl (.float .f32 (xu)) (load_cell af32 FU.out) ?_; simp only [Act.put, List.setIfInBounds_toArray, List.set_cons_zero, List.set_cons_succ])
      (refine wpRel_arithC rfl rfl (fun _ n h => Grows.drewN n h) .f32 _ _ rfl rfl ?_; intro a2 hc_a2 hb_a2; have H_a2 := Lib.hid hc_a2; clear hc_a2; replace hb_a2 : a2 < 2 ^ 32 := hb_a2; simp only [Act.put, List.setIfInBounds_toArray, List.set_cons_zero, List.set_cons_succ])
      (refine wpRel_plain rfl rfl ?_; intro K hK; go_big_quiet_op; (first | go_big_quiet_on | (refine ⟨_, fun _ _ => rfl, ?_⟩; go_big_quiet_on)))
      refine wpRel_nil ?_
      intro u3 b_u3
      replace b_u3 : Below u2.heap.size u2 u3 := b_u3
      clear Tc Tf Fc Ff
      replace T := T.later b_u3; replace Fd := Fd.later b_u3
      replace FE := Lib.hid (cell_on FE.out b_u3)
      replace FX := Lib.hid (cell_on FX.out b_u3)
      replace FU := Lib.hid (cell_on FU.out b_u3)
      replace FY := Lib.hid (cell_on FY.out b_u3)
      replace FL := Lib.hid (cell_on FL.out b_u3)
      replace FS := Lib.hid (cell_on FS.out b_u3)
      replace FO := Lib.hid (cell_on FO.out b_u3)
      replace HB := Lib.hid (HB.out.trans (b_u3.mono HB.out.size)); clear b_u3
      obtain ⟨Tc, Tf⟩ := T.open
      obtain ⟨Fc, Ff⟩ := Fd.open
      go_wp2_with fail
      refine wp_region_relC (Grows u3) (fun _ _ _ => False) (by kernel_rfl) (by kernel_rfl) (Grows.drew _) ?_
      (refine wpRel_plain rfl rfl ?_; intro K hK; go_big_quiet_op; (first | go_big_quiet_on | (refine ⟨_, fun _ _ => rfl, ?_⟩; go_big_quiet_on)))
      (refine wpRel_nilCheck rfl _ rfl ?_; simp only [Act.put, List.setIfInBounds_toArray, List.set_cons_zero, List.set_cons_succ])
      (refine wpRel_plain rfl rfl ?_; intro K hK; go_big_quiet_op; (first | go_big_quiet_on | (refine ⟨_, fun _ _ => rfl, ?_⟩; go_big_quiet_on)))
      (refine wpRel_load rfl _ rfl (.slice (some ⟨b0, o0, none⟩) e.length c0) (load_cell aslc (Fc 0)) ?_; simp only [Act.put, List.setIfInBounds_toArray, List.set_cons_zero, List.set_cons_succ])
      (refine wpRel_plain rfl rfl ?_; intro K hK; go_big_quiet_op; (first | go_big_quiet_on | (refine ⟨_, fun _ _ => rfl, ?_⟩; go_big_quiet_on)))
      (refine wpRel_plain rfl rfl ?_; intro K hK; go_big_quiet_op; (first | go_big_quiet_on | (refine ⟨_, fun _ _ => rfl, ?_⟩; go_big_quiet_on)))
      (refine wpRel_load rfl _ rfl (.float .f32 (ej)) (load_cell af32 FE.out) ?_; simp only [Act.put, List.setIfInBounds_toArray, List.set_cons_zero, List.set_cons_succ])
      (refine wpRel_plain rfl rfl ?_; intro K hK; go_big_quiet_op; (first | go_big_quiet_on | (refine ⟨_, fun _ _ => rfl, ?_⟩; go_big_quiet_on)))
      (refine wpRel_nilCheck rfl _ rfl ?_; simp only [Act.put, List.setIfInBounds_toArray, List.set_cons_zero, List.set_cons_succ])
      (refine wpRel_plain rfl rfl ?_; intro K hK; go_big_quiet_op; (first | go_big_quiet_on | (refine ⟨_, fun _ _ => rfl, ?_⟩; go_big_quiet_on)))
      (refine wpRel_load rfl _ rfl (.slice (some ⟨bb, ob, none⟩) ys.length cb) (load_cell aslc (Tc 4)) ?_; simp only [Act.put, List.setIfInBounds_toArray, List.set_cons_zero, List.set_cons_succ])
      (refine wpRel_plain rfl rfl ?_; intro K hK; go_big_quiet_op; (first | go_big_quiet_on | (refine ⟨_, fun _ _ => rfl, ?_⟩; go_big_quiet_on)))
      (refine wpRel_plain rfl rfl ?_; intro K hK; go_big_quiet_op; (first | go_big_quiet_on | (refine ⟨_, fun _ _ => rfl, ?_⟩; go_big_quiet_on)))
      (refine wpRel_load rfl _ rfl (.float .f32 (oj)) (load_cell af32 FO.out) ?_; simp only [Act.put, List.setIfInBounds_toArray, List.set_cons_zero, List.set_cons_succ])
      (refine wpRel_arithC rfl rfl (fun _ n h => Grows.drewN n h) .f32 _ _ rfl rfl ?_; intro a3 hc_a3 hb_a3; have H_a3 := Lib.hid hc_a3; clear hc_a3; replace hb_a3 : a3 < 2 ^ 32 := hb_a3; simp only [Act.put, List.setIfInBounds_toArray, List.set_cons_zero, List.set_cons_succ])
      (refine wpRel_arithC rfl rfl (fun _ n h => Grows.drewN n h) .f32 _ _ rfl rfl ?_; intro a4 hc_a4 hb_a4; have H_a4 := Lib.hid hc_a4; clear hc_a4; replace hb_a4 : a4 < 2 ^ 32 := hb_a4; simp only [Act.put, List.setIfInBounds_toArray, List.set_cons_zero, List.set_cons_succ])
      (refine wpRel_plain rfl rfl ?_; intro K hK; go_big_quiet_op; (first | go_big_quiet_on | (refine ⟨_, fun _ _ => rfl, ?_⟩; go_big_quiet_on)))
      refine wpRel_nil ?_
      intro u4 b_u4
      replace b_u4 : Below u3.heap.size u3 u4 := b_u4
      clear Tc Tf Fc Ff
      replace T := T.later b_u4; replace Fd := Fd.later b_u4
      replace FE := Lib.hid (cell_on FE.out b_u4)
      replace FX := Lib.hid (cell_on FX.out b_u4)
      replace FU := Lib.hid (cell_on FU.out b_u4)
      replace FY := Lib.hid (cell_on FY.out b_u4)
      replace FL := Lib.hid (cell_on FL.out b_u4)
      replace FS := Lib.hid (cell_on FS.out b_u4)
      replace FO := Lib.hid (cell_on FO.out b_u4)
      replace HB := Lib.hid (HB.out.trans (b_u4.mono HB.out.size)); clear b_u4
      obtain ⟨Tc, Tf⟩ := T.open
      obtain ⟨Fc, Ff⟩ := Fd.open
      have fs := FS.out
      have tok5 : True := trivial
      have tok6 : True := trivial
      have tok7 : True := trivial
      go_wp2_with (first | (have _t := tok5; refine wpList_arith rfl _ _ _ _ _ rfl rfl .f32 _ _ rfl rfl ?_; intro a5 n5 hc hb_a5; replace hb_a5 : a5 < 2 ^ 32 := hb_a5; have H_a5 := Lib.hid hc; clear hc _t tok5) | (have _t := tok6; refine wpList_arith rfl _ _ _ _ _ rfl rfl .f32 _ _ rfl rfl ?_; intro a6 n6 hc hb_a6; replace hb_a6 : a6 < 2 ^ 32 := hb_a6; have H_a6 := Lib.hid hc; clear hc _t tok6) | (have _t := tok7; refine wpList_arith rfl _ _ _ _ _ rfl rfl .f32 _ _ rfl rfl ?_; intro a7 n7 hc hb_a7; replace hb_a7 : a7 < 2 ^ 32 := hb_a7; have H_a7 := Lib.hid hc; clear hc _t tok7))
      go_ret
      exact ⟨a7, rfl, by rw [HV.out, H_a7.out, H_a6.out, H_a5.out, H_a4.out, H_a3.out, H_a2.out, H_a1.out, NFE.out, NFX.out, NFU.out, NFY.out, NFL.out, NFS.out, NFO.out], hb_a7, below_drewN HB.out _⟩
    · skip
      have HV : Hid (restE false m k (nums xs) (nums ys) (nums e) (nums x) (nums y) j = nums e j) := Lib.hid (by rw [HD.out, hbd]; rfl)
      replace hbd := Lib.hid hbd
      go_enter Try.func128, Try.ntmps128
      go_wp2_with fail
      refine (specAtV g m k j _ _ _ _ _ _ T h1 h2 h3 h4 (by omega) (by omega) (by omega) (by omega) HJ).mono ?_
      rintro r u1 ⟨rfl, q1⟩
      clear Tc Tf Fc Ff
      replace T := T.later q1; replace Fd := Fd.later q1
      replace FE := Lib.hid (cell_on FE.out q1)
      replace FX := Lib.hid (cell_on FX.out q1)
      replace FU := Lib.hid (cell_on FU.out q1)
      replace FY := Lib.hid (cell_on FY.out q1)
      replace FL := Lib.hid (cell_on FL.out q1)
      replace FS := Lib.hid (cell_on FS.out q1)
      replace FO := Lib.hid (cell_on FO.out q1)
      have HB := Lib.hid q1; clear q1
      obtain ⟨Tc, Tf⟩ := T.open
      obtain ⟨Fc, Ff⟩ := Fd.open
      go_wp2_with fail
      refine (specBorder g (m : Int) (k : Int) (p : Int) (q : Int) false _ _ _ T (by omega) (by omega) (by omega) (by omega)).mono ?_
      rintro r u1' ⟨rfl, rfl⟩
      rw [hbd.out]
      have f1 := FE.out
      go_wp2
      go_ret
      exact ⟨ej, rfl, by rw [HV.out, NFE.out], XLT.out, HB.out⟩

end Go.Proofs.Ytedfbaeajofmnaa

end
