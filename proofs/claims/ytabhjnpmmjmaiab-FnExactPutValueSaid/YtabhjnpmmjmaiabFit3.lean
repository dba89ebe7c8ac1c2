/- Fields of a sheet: the model's test. Conditions: none beyond those of each theorem. -/
import Derived.Test.YtabhjnpmmjmaiabFit2
namespace Go.Proofs.Ytabhjnpmmjmaiab
open Go Ieee Go.RowKit
set_option linter.unusedVariables false

/-- what is asked of the cell with an index, where there are walls -/
def goodB (wd hi : Int) (e x y : List Nat) (j : Nat) : Bool :=
  !(nzB (e.getD j 0) && bordB false wd hi ((j : Int) % wd) ((j : Int) / wd)) && (!(nzB (x.getD j 0) && belowB false hi ((j : Int) / wd)) && !(nzB (y.getD j 0) && besideB false wd ((j : Int) % wd)))

theorem zin_wrap (p : Int → Int → Bool) (wd : Int) (xs : List Nat) (h : ∀ x y, p x y = false) : zin p wd xs = true :=
  zin_true fun i _ => by rw [h, Bool.and_false]

theorem fits_wrap (wd hi : Int) (e x y : List Nat) : fitsB wd hi true e x y = (decide ((e.length : Int) = wd * hi) && (decide ((x.length : Int) = wd * hi) && decide ((y.length : Int) = wd * hi))) := by
  unfold fitsB
  rw [zin_wrap (bordB true wd hi) _ _ (fun _ _ => rfl), zin_wrap (fun _ y => belowB true hi y) _ _ (fun _ _ => rfl), zin_wrap (fun x _ => besideB true wd x) _ _ (fun _ _ => rfl)]
  simp

theorem fits_good {wd hi : Int} {e x y : List Nat} (l0 : (e.length : Int) = wd * hi) (l1 : (x.length : Int) = wd * hi) (l2 : (y.length : Int) = wd * hi) (h : ∀ j : Nat, (j : Int) < wd * hi → goodB wd hi e x y j = true) : fitsB wd hi false e x y = true := by
  have g : ∀ j : Nat, (j : Int) < wd * hi → (nzB (e.getD j 0) && bordB false wd hi ((j : Int) % wd) ((j : Int) / wd)) = false ∧ (nzB (x.getD j 0) && belowB false hi ((j : Int) / wd)) = false ∧ (nzB (y.getD j 0) && besideB false wd ((j : Int) % wd)) = false := fun j hj => by
    have := h j hj
    unfold goodB at this
    simp only [Bool.and_eq_true, Bool.not_eq_true'] at this
    exact this
  unfold fitsB
  rw [decide_eq_true l0, decide_eq_true l1, decide_eq_true l2, zin_true (fun i hi => (g i (by omega)).1), zin_true (fun i hi => (g i (by omega)).2.1), zin_true (fun i hi => (g i (by omega)).2.2)]
  rfl

theorem fits_bad {wd hi : Int} {e x y : List Nat} (l0 : (e.length : Int) = wd * hi) (l1 : (x.length : Int) = wd * hi) (l2 : (y.length : Int) = wd * hi) (j : Nat) (hj : (j : Int) < wd * hi) (h : goodB wd hi e x y j = false) : fitsB wd hi false e x y = false := by
  unfold goodB at h
  unfold fitsB
  rcases h0 : (nzB (e.getD j 0) && bordB false wd hi ((j : Int) % wd) ((j : Int) / wd)) with _ | _
  · rcases h1 : (nzB (x.getD j 0) && belowB false hi ((j : Int) / wd)) with _ | _
    · rw [h0, h1] at h
      have h2 : (nzB (y.getD j 0) && besideB false wd ((j : Int) % wd)) = true := by simpa using h
      rw [zin_false (p := fun x _ => besideB false wd x) j (by omega) h2]; simp
    · rw [zin_false (p := fun _ y => belowB false hi y) j (by omega) h1]; simp
  · rw [zin_false j (by omega) h0]; simp

theorem div_of {wd : Int} {m k : Nat} (h : (m : Int) < wd) : ((m : Int) + wd * k) % wd = m ∧ ((m : Int) + wd * k) / wd = k := by
  constructor
  · rw [Int.add_mul_emod_self_left, Int.emod_eq_of_lt (by omega) h]
  · rw [Int.add_mul_ediv_left _ _ (by omega), Int.ediv_eq_zero_of_lt (by omega) h, Int.zero_add]

set_option maxHeartbeats 8000000 in
set_option maxRecDepth 100000 in
theorem specFits (g gf : Nat) (wd hi : Int) (wb : Bool) (a b : Option Addr) (ca cb : Nat) (xs ys : List Nat) (a0 a1 a2 : Option Addr) (c0 c1 c2 : Nat) (e x y : List Nat) (w : World) (hg : Blk w g #[.int .i64 wd, .int .i64 hi, .bool wb, .slice a xs.length ca, .slice b ys.length cb] 27) (hgf : Blk w gf #[.slice a0 e.length c0, .slice a1 x.length c1, .slice a2 y.length c2] 41) (s1 : 3 ≤ wd) (s2 : wd ≤ 16) (s3 : 3 ≤ hi) (s4 : hi ≤ 16) (h0 : RowV w a0 (fvals e)) (h1 : RowV w a1 (fvals x)) (h2 : RowV w a2 (fvals y)) (m0 : e.length ≤ maxLen) (m1 : x.length ≤ maxLen) (m2 : y.length ≤ maxLen) :
    Calls Try.prog 67 #[.pointer (some ⟨g, 0, none⟩), .pointer (some ⟨gf, 0, none⟩)] w fun r w' => r = .returned (.bool (fitsB wd hi wb e x y)) ∧ ∃ n, w' = w.drewN n := by
  unfold maxLen at m0 m1 m2
  have hm1 : 0 ≤ wd * hi := Int.mul_nonneg (by omega) (by omega)
  have hm2 : wd * hi ≤ 256 := by
    have := Int.mul_le_mul s2 s4 (by omega) (by omega); omega
  obtain ⟨gc, gz⟩ := hg.open; obtain ⟨fc, fz⟩ := hgf.open
  by_cases e0 : (e.length : Int) = wd * hi
  · skip
    by_cases e1 : (x.length : Int) = wd * hi
    · skip
      by_cases e2 : (y.length : Int) = wd * hi
      · skip
        have d0 : ((e.length : Int) != wd * hi) = false := by rw [e0]; simp
        have d1 : ((x.length : Int) != wd * hi) = false := by rw [e1]; simp
        have d2 : ((y.length : Int) != wd * hi) = false := by rw [e2]; simp
        cases wb with
        | true =>
          have E : Hid (fitsB wd hi true e x y = true) := Lib.hid (by rw [fits_wrap, decide_eq_true e0, decide_eq_true e1, decide_eq_true e2]; rfl)
          clear e0 e1 e2
          go_enter Try.func67, Try.ntmps67
          go_wp2
          go_quiet (fail)
          go_wp2
          refine wp_loop_rounds 1 ?_
          rw [rounds_succ]
          go_wp2
          go_ret
          exact ⟨by rw [E.out]; rfl, _, rfl⟩
        | false =>
          have L0 := Lib.hid e0; have L1 := Lib.hid e1; have L2 := Lib.hid e2
          clear e0 e1 e2
          go_enter Try.func67, Try.ntmps67
          go_wp2
          go_quiet (fail)
          go_wp2
          go_loop [6] (fun yv => ∃ k : Nat, (k : Int) ≤ hi ∧ yv = .int .i64 k ∧ ∀ j : Nat, (j : Int) < wd * k → goodB wd hi e x y j = true) (fun yv => (hi - intOf yv).toNat)
          case atStart => exact ⟨0, by omega, rfl, fun j hj => by simp at hj; omega⟩
          case round =>
            obtain ⟨k, hk, rfl, hall⟩ := hrel
            have HA := Lib.hid hall; clear hall
            by_cases hlt : (k : Int) < hi
            · skip
              have hp0 : 0 ≤ wd * (k : Int) := Int.mul_nonneg (by omega) (by omega)
              have hp1 : wd * (k : Int) + wd ≤ wd * hi := by
                have := Int.mul_le_mul_of_nonneg_left (show (k : Int) + 1 ≤ hi by omega) (show 0 ≤ wd by omega)
                rw [Int.mul_add, Int.mul_one] at this; exact this
              have HPP : Hid (∃ p : Int, p = wd * (k : Int)) := Lib.hid ⟨_, rfl⟩
              go_wp2
              go_loop [7] (fun xv => ∃ m : Nat, (m : Int) ≤ wd ∧ xv = .int .i64 m ∧ ∀ j : Nat, (j : Int) < wd * k + m → goodB wd hi e x y j = true) (fun xv => (wd - intOf xv).toNat)
              case atStart => exact ⟨0, by omega, rfl, fun j hj => HA.out j (by simpa using hj)⟩
              case round =>
                obtain ⟨m, hm, rfl, hin⟩ := hrel
                have HI := Lib.hid hin; clear hin
                by_cases hmt : (m : Int) < wd
                · skip
                  obtain ⟨v1, v2⟩ := div_of (k := k) hmt
                  obtain ⟨j, hj⟩ := Int.eq_ofNat_of_zero_le (show 0 ≤ (m : Int) + wd * k by omega)
                  have j0 : j < e.length := by have := L0.out; omega
                  have j1 : j < x.length := by have := L1.out; omega
                  have j2 : j < y.length := by have := L2.out; omega
                  obtain ⟨p0, o0, rfl, z0⟩ := h0 j _ (fvals_get j0)
                  obtain ⟨p1, o1, rfl, z1⟩ := h1 j _ (fvals_get j1)
                  obtain ⟨p2, o2, rfl, z2⟩ := h2 j _ (fvals_get j2)
                  have HG0 := Lib.hid (getD_get j0); have HG1 := Lib.hid (getD_get j1); have HG2 := Lib.hid (getD_get j2)
                  have i0 : (j : Int) < (e.length : Int) := by omega
                  have i1 : (j : Int) < (x.length : Int) := by omega
                  have i2 : (j : Int) < (y.length : Int) := by omega
                  have HJ : Hid ((j : Int) % wd = m ∧ (j : Int) / wd = k ∧ (j : Int) < wd * hi ∧ (j : Int) = m + wd * k) := Lib.hid ⟨by rw [← hj]; exact v1, by rw [← hj]; exact v2, by omega, hj.symm⟩
                  have hg : goodB wd hi e x y j = (!(nzB e[j] && bordB false wd hi m k) && (!(nzB x[j] && belowB false hi k) && !(nzB y[j] && besideB false wd m))) := by
                    unfold goodB
                    rw [HG0.out, HG1.out, HG2.out, HJ.out.1, HJ.out.2.1]
                  have HGD := Lib.hid hg; clear hg v1 v2
                  have bad : goodB wd hi e x y j = false → Hid (fitsB wd hi false e x y = false) := fun h => Lib.hid (fits_bad L0.out L1.out L2.out j HJ.out.2.2.1 h)
                  have BAD := Lib.hid bad; clear bad
                  generalize e[j] = ve at *; generalize x[j] = vx at *; generalize y[j] = vy at *
                  rcases f0 : bordB false wd hi (m : Int) (k : Int) with _ | _
                  · skip
                    rcases f1 : belowB false hi (k : Int) with _ | _
                    · skip
                      rcases f2 : besideB false wd (m : Int) with _ | _
                      · skip
                        have HK : Hid (goodB wd hi e x y j = true) := Lib.hid (by rw [HGD.out, f0, f1, f2]; simp)
                        change ((k : Int) == hi - 1) = false at f1
                        change ((m : Int) == wd - 1) = false at f2
                        clear BAD
                        go_wp2_with (go_at_call 78; refine (specBorder _ _ _ _ _ _ _ _ _ (hg.drewN _) s1 s2 s3 s4).mono ?_; rintro r w' ⟨rfl, rfl⟩)
                        go_round
                        case rel =>
                          refine ⟨m + 1, by omega, by go_num, fun j' hj' => ?_⟩
                          by_cases ej : j' = j
                          · subst ej; exact HK.out
                          · exact HI.out j' (by have := HJ.out.2.2.2; omega)
                        case measure => simp [intOf]; omega
                      · rcases n2 : nzB vy with _ | _
                        · skip
                          have HK : Hid (goodB wd hi e x y j = true) := Lib.hid (by rw [HGD.out, f0, f1, f2, n2]; simp)
                          unfold nzB at n2
                          change ((k : Int) == hi - 1) = false at f1
                          change ((m : Int) == wd - 1) = true at f2
                          clear BAD
                          go_wp2_with (go_at_call 78; refine (specBorder _ _ _ _ _ _ _ _ _ (hg.drewN _) s1 s2 s3 s4).mono ?_; rintro r w' ⟨rfl, rfl⟩)
                          go_round
                          case rel =>
                            refine ⟨m + 1, by omega, by go_num, fun j' hj' => ?_⟩
                            by_cases ej : j' = j
                            · subst ej; exact HK.out
                            · exact HI.out j' (by have := HJ.out.2.2.2; omega)
                          case measure => simp [intOf]; omega
                        · skip
                          have HB := BAD.out (by rw [HGD.out, f0, f1, f2, n2]; simp)
                          unfold nzB at n2
                          change ((k : Int) == hi - 1) = false at f1
                          change ((m : Int) == wd - 1) = true at f2
                          clear BAD
                          go_wp2_with (go_at_call 78; refine (specBorder _ _ _ _ _ _ _ _ _ (hg.drewN _) s1 s2 s3 s4).mono ?_; rintro r w' ⟨rfl, rfl⟩)
                          go_ret
                          exact ⟨by rw [HB.out]; rfl, _, rfl⟩
                    · rcases n1 : nzB vx with _ | _
                      · skip
                        rcases f2 : besideB false wd (m : Int) with _ | _
                        · skip
                          have HK : Hid (goodB wd hi e x y j = true) := Lib.hid (by rw [HGD.out, f0, f1, n1, f2]; simp)
                          unfold nzB at n1
                          change ((k : Int) == hi - 1) = true at f1
                          change ((m : Int) == wd - 1) = false at f2
                          clear BAD
                          go_wp2_with (go_at_call 78; refine (specBorder _ _ _ _ _ _ _ _ _ (hg.drewN _) s1 s2 s3 s4).mono ?_; rintro r w' ⟨rfl, rfl⟩)
                          go_round
                          case rel =>
                            refine ⟨m + 1, by omega, by go_num, fun j' hj' => ?_⟩
                            by_cases ej : j' = j
                            · subst ej; exact HK.out
                            · exact HI.out j' (by have := HJ.out.2.2.2; omega)
                          case measure => simp [intOf]; omega
                        · rcases n2 : nzB vy with _ | _
                          · skip
                            have HK : Hid (goodB wd hi e x y j = true) := Lib.hid (by rw [HGD.out, f0, f1, n1, f2, n2]; simp)
                            unfold nzB at n1
                            unfold nzB at n2
                            change ((k : Int) == hi - 1) = true at f1
                            change ((m : Int) == wd - 1) = true at f2
                            clear BAD
                            go_wp2_with (go_at_call 78; refine (specBorder _ _ _ _ _ _ _ _ _ (hg.drewN _) s1 s2 s3 s4).mono ?_; rintro r w' ⟨rfl, rfl⟩)
                            go_round
                            case rel =>
                              refine ⟨m + 1, by omega, by go_num, fun j' hj' => ?_⟩
                              by_cases ej : j' = j
                              · subst ej; exact HK.out
                              · exact HI.out j' (by have := HJ.out.2.2.2; omega)
                            case measure => simp [intOf]; omega
                          · skip
                            have HB := BAD.out (by rw [HGD.out, f0, f1, n1, f2, n2]; simp)
                            unfold nzB at n1
                            unfold nzB at n2
                            change ((k : Int) == hi - 1) = true at f1
                            change ((m : Int) == wd - 1) = true at f2
                            clear BAD
                            go_wp2_with (go_at_call 78; refine (specBorder _ _ _ _ _ _ _ _ _ (hg.drewN _) s1 s2 s3 s4).mono ?_; rintro r w' ⟨rfl, rfl⟩)
                            go_ret
                            exact ⟨by rw [HB.out]; rfl, _, rfl⟩
                      · skip
                        have HB := BAD.out (by rw [HGD.out, f0, f1, n1]; simp)
                        unfold nzB at n1
                        change ((k : Int) == hi - 1) = true at f1
                        clear BAD
                        go_wp2_with (go_at_call 78; refine (specBorder _ _ _ _ _ _ _ _ _ (hg.drewN _) s1 s2 s3 s4).mono ?_; rintro r w' ⟨rfl, rfl⟩)
                        go_ret
                        exact ⟨by rw [HB.out]; rfl, _, rfl⟩
                  · rcases n0 : nzB ve with _ | _
                    · skip
                      rcases f1 : belowB false hi (k : Int) with _ | _
                      · skip
                        rcases f2 : besideB false wd (m : Int) with _ | _
                        · skip
                          have HK : Hid (goodB wd hi e x y j = true) := Lib.hid (by rw [HGD.out, f0, n0, f1, f2]; simp)
                          unfold nzB at n0
                          change ((k : Int) == hi - 1) = false at f1
                          change ((m : Int) == wd - 1) = false at f2
                          clear BAD
                          go_wp2_with (go_at_call 78; refine (specBorder _ _ _ _ _ _ _ _ _ (hg.drewN _) s1 s2 s3 s4).mono ?_; rintro r w' ⟨rfl, rfl⟩)
                          go_round
                          case rel =>
                            refine ⟨m + 1, by omega, by go_num, fun j' hj' => ?_⟩
                            by_cases ej : j' = j
                            · subst ej; exact HK.out
                            · exact HI.out j' (by have := HJ.out.2.2.2; omega)
                          case measure => simp [intOf]; omega
                        · rcases n2 : nzB vy with _ | _
                          · skip
                            have HK : Hid (goodB wd hi e x y j = true) := Lib.hid (by rw [HGD.out, f0, n0, f1, f2, n2]; simp)
                            unfold nzB at n0
                            unfold nzB at n2
                            change ((k : Int) == hi - 1) = false at f1
                            change ((m : Int) == wd - 1) = true at f2
                            clear BAD
                            go_wp2_with (go_at_call 78; refine (specBorder _ _ _ _ _ _ _ _ _ (hg.drewN _) s1 s2 s3 s4).mono ?_; rintro r w' ⟨rfl, rfl⟩)
                            go_round
                            case rel =>
                              refine ⟨m + 1, by omega, by go_num, fun j' hj' => ?_⟩
                              by_cases ej : j' = j
                              · subst ej; exact HK.out
                              · exact HI.out j' (by have := HJ.out.2.2.2; omega)
                            case measure => simp [intOf]; omega
                          · skip
                            have HB := BAD.out (by rw [HGD.out, f0, n0, f1, f2, n2]; simp)
                            unfold nzB at n0
                            unfold nzB at n2
                            change ((k : Int) == hi - 1) = false at f1
                            change ((m : Int) == wd - 1) = true at f2
                            clear BAD
                            go_wp2_with (go_at_call 78; refine (specBorder _ _ _ _ _ _ _ _ _ (hg.drewN _) s1 s2 s3 s4).mono ?_; rintro r w' ⟨rfl, rfl⟩)
                            go_ret
                            exact ⟨by rw [HB.out]; rfl, _, rfl⟩
                      · rcases n1 : nzB vx with _ | _
                        · skip
                          rcases f2 : besideB false wd (m : Int) with _ | _
                          · skip
                            have HK : Hid (goodB wd hi e x y j = true) := Lib.hid (by rw [HGD.out, f0, n0, f1, n1, f2]; simp)
                            unfold nzB at n0
                            unfold nzB at n1
                            change ((k : Int) == hi - 1) = true at f1
                            change ((m : Int) == wd - 1) = false at f2
                            clear BAD
                            go_wp2_with (go_at_call 78; refine (specBorder _ _ _ _ _ _ _ _ _ (hg.drewN _) s1 s2 s3 s4).mono ?_; rintro r w' ⟨rfl, rfl⟩)
                            go_round
                            case rel =>
                              refine ⟨m + 1, by omega, by go_num, fun j' hj' => ?_⟩
                              by_cases ej : j' = j
                              · subst ej; exact HK.out
                              · exact HI.out j' (by have := HJ.out.2.2.2; omega)
                            case measure => simp [intOf]; omega
                          · rcases n2 : nzB vy with _ | _
                            · skip
                              have HK : Hid (goodB wd hi e x y j = true) := Lib.hid (by rw [HGD.out, f0, n0, f1, n1, f2, n2]; simp)
                              unfold nzB at n0
                              unfold nzB at n1
                              unfold nzB at n2
                              change ((k : Int) == hi - 1) = true at f1
                              change ((m : Int) == wd - 1) = true at f2
                              clear BAD
                              go_wp2_with (go_at_call 78; refine (specBorder _ _ _ _ _ _ _ _ _ (hg.drewN _) s1 s2 s3 s4).mono ?_; rintro r w' ⟨rfl, rfl⟩)
                              go_round
                              case rel =>
                                refine ⟨m + 1, by omega, by go_num, fun j' hj' => ?_⟩
                                by_cases ej : j' = j
                                · subst ej; exact HK.out
                                · exact HI.out j' (by have := HJ.out.2.2.2; omega)
                              case measure => simp [intOf]; omega
                            · skip
                              have HB := BAD.out (by rw [HGD.out, f0, n0, f1, n1, f2, n2]; simp)
                              unfold nzB at n0
                              unfold nzB at n1
                              unfold nzB at n2
                              change ((k : Int) == hi - 1) = true at f1
                              change ((m : Int) == wd - 1) = true at f2
                              clear BAD
                              go_wp2_with (go_at_call 78; refine (specBorder _ _ _ _ _ _ _ _ _ (hg.drewN _) s1 s2 s3 s4).mono ?_; rintro r w' ⟨rfl, rfl⟩)
                              go_ret
                              exact ⟨by rw [HB.out]; rfl, _, rfl⟩
                        · skip
                          have HB := BAD.out (by rw [HGD.out, f0, n0, f1, n1]; simp)
                          unfold nzB at n0
                          unfold nzB at n1
                          change ((k : Int) == hi - 1) = true at f1
                          clear BAD
                          go_wp2_with (go_at_call 78; refine (specBorder _ _ _ _ _ _ _ _ _ (hg.drewN _) s1 s2 s3 s4).mono ?_; rintro r w' ⟨rfl, rfl⟩)
                          go_ret
                          exact ⟨by rw [HB.out]; rfl, _, rfl⟩
                    · skip
                      have HB := BAD.out (by rw [HGD.out, f0, n0]; simp)
                      unfold nzB at n0
                      clear BAD
                      go_wp2_with (go_at_call 78; refine (specBorder _ _ _ _ _ _ _ _ _ (hg.drewN _) s1 s2 s3 s4).mono ?_; rintro r w' ⟨rfl, rfl⟩)
                      go_ret
                      exact ⟨by rw [HB.out]; rfl, _, rfl⟩
                · go_wp2
                  go_round
                  case rel =>
                    refine ⟨k + 1, by omega, by go_num, fun j' hj' => HI.out j' ?_⟩
                    have e1 : wd * ((k + 1 : Nat) : Int) = wd * k + wd := by push_cast; rw [Int.mul_add, Int.mul_one]
                    omega
                  case measure => simp [intOf]; omega
            · have E : Hid (fitsB wd hi false e x y = true) := Lib.hid (fits_good L0.out L1.out L2.out (fun j hj => HA.out j (by rw [show (k : Int) = hi by omega]; exact hj)))
              go_wp2
              go_ret
              exact ⟨by rw [E.out]; rfl, _, rfl⟩
      · have E : Hid (fitsB wd hi wb e x y = false) := Lib.hid (by unfold fitsB; rw [decide_eq_false e2]; simp)
        have d0 : ((e.length : Int) != wd * hi) = false := by rw [e0]; simp
        have d1 : ((x.length : Int) != wd * hi) = false := by rw [e1]; simp
        have d2 : ((y.length : Int) != wd * hi) = true := by simpa using e2
        clear e0 e1 e2
        go_enter Try.func67, Try.ntmps67
        go_wp2
        go_quiet (fail)
        go_wp2
        go_ret
        exact ⟨by rw [E.out]; rfl, _, rfl⟩
    · have E : Hid (fitsB wd hi wb e x y = false) := Lib.hid (by unfold fitsB; rw [decide_eq_false e1]; simp)
      have d0 : ((e.length : Int) != wd * hi) = false := by rw [e0]; simp
      have d1 : ((x.length : Int) != wd * hi) = true := by simpa using e1
      clear e0 e1
      go_enter Try.func67, Try.ntmps67
      go_wp2
      go_quiet (fail)
      go_wp2
      go_ret
      exact ⟨by rw [E.out]; rfl, _, rfl⟩
  · have E : Hid (fitsB wd hi wb e x y = false) := Lib.hid (by unfold fitsB; rw [decide_eq_false e0]; simp)
    have d0 : ((e.length : Int) != wd * hi) = true := by simpa using e0
    clear e0
    go_enter Try.func67, Try.ntmps67
    go_wp2
    go_quiet (fail)
    go_wp2
    go_ret
    exact ⟨by rw [E.out]; rfl, _, rfl⟩

end Go.Proofs.Ytabhjnpmmjmaiab
