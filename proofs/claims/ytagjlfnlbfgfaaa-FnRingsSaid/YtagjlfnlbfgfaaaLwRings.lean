/- The walk of the law on rings. Conditions: none beyond those of each theorem. -/
import Derived.Test.YtagjlfnlbfgfaaaBu28
import Derived.Test.YtagjlfnlbfgfaaaRing
import Derived.Test.YtagjlfnlbfgfaaaPlan
import Derived.Deep.MidRow
namespace Go.Proofs.Ytagjlfnlbfgfaaa
open Go Ieee Go.RowKit
set_option linter.unusedVariables false
set_option linter.unusedSimpArgs false

theorem r8AtI (a : Option Addr) (n c : Nat) (bs : List Int) (kk m : Int) (w : World) (hb : RowV w a (bvals bs)) (hq : ∀ z ∈ bs, 0 ≤ z ∧ z < 256) (hn : bs.length = n) (n48 : n ≤ 48) (k0 : 0 ≤ kk) (k1 : kk ≤ 100) (m1 : 1 ≤ m) (m2 : m ≤ 100) : Calls Try.prog 6 #[.slice a n c, .int .i64 kk, .int .i64 m] w fun e w' => ∃ r : Int, e = .returned (.int .i64 r) ∧ 0 ≤ r ∧ r < m ∧ w = w' := by
  obtain ⟨k, rfl⟩ := Int.eq_ofNat_of_zero_le k0
  exact r8At_any a n c bs k m w hb hq hn n48 (by omega) m1 m2
theorem wf_small {x : Int} (h0 : 0 ≤ x) (h1 : x ≤ 1000) : (Lit.int .i64 x).wf = true := by
  simp [Lit.wf, IntKind.min, IntKind.max, IntKind.signed, IntKind.bits]; omega
theorem ring_at {wn v u : Nat} (hu : u < wn) : ((wn * v + u : Nat) : Int) % (wn : Int) = u ∧ ((wn * v + u : Nat) : Int) / (wn : Int) = v := by
  constructor
  · rw [← Int.natCast_emod, Nat.mul_add_mod, Nat.mod_eq_of_lt hu]
  · rw [← Int.natCast_ediv, Nat.mul_add_div (by omega), Nat.div_eq_of_lt hu, Nat.add_zero]
theorem ringP_at {wn v u : Nat} {x y far D : Int} (hu : u < wn) (hD : max (max ((u : Int) - x) (x - u)) (max ((v : Int) - y) (y - v)) = D) : ringP wn x y far (wn * v + u) = decide (D = far) := by
  unfold ringP; rw [(ring_at hu).1, (ring_at hu).2, hD]
theorem ring_cells {wd hi x y far : Int} (h1 : 0 < wd) : ∀ j : Nat, (j : Int) ≤ wd * hi → ∀ p ∈ ringN wd x y far j, cellB wd hi p.1 p.2 = true
  | 0, _, p, hp => by cases hp
  | j + 1, hj, p, hp => by
    cases hf : ringP wd x y far j with
    | false => rw [ringN_no hf] at hp; exact ring_cells h1 j (by omega) p hp
    | true =>
      rw [ringN_yes hf] at hp
      rcases List.mem_append.1 hp with h | h
      · exact ring_cells h1 j (by omega) p h
      · rw [List.mem_singleton.1 h]
        have a1 : 0 ≤ (j : Int) % wd := Int.emod_nonneg _ (by omega)
        have a2 : (j : Int) % wd < wd := Int.emod_lt_of_pos _ h1
        have a3 : 0 ≤ (j : Int) / wd := Int.ediv_nonneg (by omega) (by omega)
        have a4 : (j : Int) / wd < hi := Int.ediv_lt_of_lt_mul h1 (by rw [Int.mul_comm]; omega)
        unfold cellB
        rw [decide_eq_true (by omega)]
        simp; omega

set_option maxHeartbeats 16000000 in
set_option maxRecDepth 100000 in
theorem fnRings_walk (a0 : Option Addr) (c0 : Nat) (b0 : List Int) (a1 : Option Addr) (c1 : Nat) (b1 : List Int) (w : World) (r0 : RowV w a0 (bvals b0)) (q0 : ∀ z ∈ b0, 0 ≤ z ∧ z < 256) (m0 : b0.length ≤ maxLen) (r1 : RowV w a1 (bvals b1)) (q1 : ∀ z ∈ b1, 0 ≤ z ∧ z < 256) (m1 : b1.length ≤ maxLen) :
    Calls Try.prog 3 #[.slice a0 b0.length c0, .slice a1 b1.length c1] w fun e w' => e = .returned (.bool true) ∧ Below w.heap.size w w' := by
  by_cases h48 : b0.length ≤ 48 ∧ b1.length ≤ 48
  rotate_left
  · go_enter Try.func3, Try.ntmps3
    go_wp2_with fail
    refine (r8Long_yes _ _ _ _ _ _ _ m0 m1 h48).mono ?_
    rintro e w9 ⟨rfl, rfl⟩
    go_wp2
    go_ret
    exact ⟨rfl, Below.refl _ _⟩
  obtain ⟨h0, h1⟩ := h48
  clear m0 m1
  have HL0 : Hid (b0.length = b0.length) := Lib.hid rfl
  obtain ⟨ti, hi0, hz0, hz1, hz2⟩ := info_parts Try.infoProbe
  have HI := Lib.hid hi0; have HZ0 := Lib.hid hz0; have HZ1 := Lib.hid hz1; have HZ2 := Lib.hid hz2; clear hi0 hz0 hz1 hz2
  have HQ1 := Lib.hid q1; clear q1
  go_enter Try.func3, Try.ntmps3
  go_wp2_with fail
  refine (r8Long_no _ _ _ _ _ _ _ h0 h1).mono ?_
  rintro e w9 ⟨rfl, rfl⟩
  go_wp2_with fail
  refine (specR8Sheet _ _ _ b0 _ r0 q0 rfl h0).mono ?_
  rintro e u1 ⟨wd, hi, wb, s0, s1, k0, k1, xs, ys, rfl, hv, w6, h6, o0, o1, qa, qb, q⟩
  clear r0 q0 h0 HL0
  have HB := Lib.hid q; clear q
  obtain ⟨v1, v2, v3, v4, v5, v6, v7⟩ := valid_parts hv
  obtain ⟨wn, rfl⟩ := Int.eq_ofNat_of_zero_le (show 0 ≤ wd by omega)
  obtain ⟨hh, rfl⟩ := Int.eq_ofNat_of_zero_le (show 0 ≤ hi by omega)
  have lx : xs.length ≤ maxLen := by unfold maxLen; omega
  have ly : ys.length ≤ maxLen := by unfold maxLen; omega
  have hm : wn * hh ≤ 36 := Nat.mul_le_mul (show wn ≤ 6 by omega) (show hh ≤ 6 by omega)
  have HV := Lib.hid hv; have HLX := Lib.hid lx; have HLY := Lib.hid ly; have QA := Lib.hid qa; have QB := Lib.hid qb; have HM := Lib.hid hm; clear hv lx ly qa qb v5 v6 v7 hm
  have X0 := Lib.hid o0; have X1 := Lib.hid o1; clear o0 o1
  have O := Blk.new u1 #[.int .i64 (wn : Int), .int .i64 (hh : Int), .bool wb, .slice s0 xs.length k0, .slice s1 ys.length k1] 26
  have q9 := below_new u1 (.cells #[.int .i64 (wn : Int), .int .i64 (hh : Int), .bool wb, .slice s0 xs.length k0, .slice s1 ys.length k1] 26)
  replace X0 := Lib.hid (X0.out.later q9); replace X1 := Lib.hid (X1.out.later q9); replace HB := Lib.hid (HB.out.trans (q9.mono HB.out.size)); clear q9
  go_upto_region 4 with (fail)
  obtain ⟨gs, hgs⟩ : ∃ gs, gs = u1.heap.size := ⟨_, rfl⟩
  rw [← hgs] at O
  (try simp only [← hgs])
  generalize u1.alloc (.cells #[.int .i64 (wn : Int), .int .i64 (hh : Int), .bool wb, .slice s0 xs.length k0, .slice s1 ys.length k1] 26) = u2 at *
  clear hgs
  obtain ⟨Oc, Of⟩ := O.open
  have hwn : (wn : Int) ≤ 100 := by omega
  have hhn : (hh : Int) ≤ 100 := by omega
  go_wp2_with fail
  refine (r8AtI _ _ _ b1 0 (wn : Int) _ (r1.later HB.out) HQ1.out rfl h1 (by decide) (by decide) (by omega) (by omega)).mono ?_
  rintro e w9 ⟨x, rfl, x0, x1, rfl⟩
  go_wp2_with fail
  refine (r8AtI _ _ _ b1 1 (hh : Int) _ (r1.later HB.out) HQ1.out rfl h1 (by decide) (by decide) (by omega) (by omega)).mono ?_
  rintro e w9 ⟨y, rfl, y0, y1, rfl⟩
  go_wp2_with fail
  refine (r8AtI _ _ _ b1 2 4 _ (r1.later HB.out) HQ1.out rfl h1 (by decide) (by decide) (by decide) (by decide)).mono ?_
  rintro e w9 ⟨r, rfl, r0, r3, rfl⟩
  have hB : ringB (wn : Int) (hh : Int) xs ys x y (1 + r) = decide ((ringL (wn : Int) (hh : Int) x y (1 + r)).length ≤ 8) := by
    unfold ringB
    have e1 : cellB (wn : Int) (hh : Int) x y = true := by unfold cellB; rw [decide_eq_true (by omega)]; simp; omega
    rw [HV.out, e1, decide_eq_true (p := 1 ≤ (1 + r) ∧ (1 + r) ≤ 16) (by omega)]; rfl
  have HBB := Lib.hid hB; clear hB
  go_wp2_with fail
  refine (implRingAroundL _ _ _ _ _ _ _ xs ys x y (1 + r) _ X0.out X1.out QA.out QB.out HLX.out HLY.out (wf_small x0 (by omega)) (wf_small y0 (by omega)) (wf_small (by omega) (by omega))).mono ?_
  rintro e u3 ⟨a9, c9, ps, rfl, GP⟩
  have GO := Lib.hid GP.o; have GS := Lib.hid GP.s; have q := GP.below; clear GP Oc Of
  replace O := O.later q; replace X0 := Lib.hid (X0.out.later q); replace X1 := Lib.hid (X1.out.later q); replace HB := Lib.hid (HB.out.trans (q.mono HB.out.size)); clear q
  generalize ringB (wn : Int) (hh : Int) xs ys x y (1 + r) = B at *
  have OS := Lib.hid (outsP_start (w := u3) (wr := u3) (Below.refl _ _))
  go_wp2
  go_loopw [11, 12] (fun vv iv wr => ∃ v : Nat, v ≤ hh ∧ iv = .int .i64 v ∧ OutsP u3 wr vv (ringN (wn : Int) x y (1 + r) (wn * v))) (fun _ iv _ => hh - (intOf iv).toNat)
  case atStart => exact ⟨0, Nat.zero_le _, rfl, OS.out⟩
  case round =>
    obtain ⟨v, hvv, rfl, hout⟩ := hrel
    have HO := Lib.hid hout; clear hout OS
    by_cases hlv : v < hh
    · skip
      have hvi : (v : Int) < (hh : Int) := by omega
      have v0 : (0 : Int) ≤ (v : Int) := Int.natCast_nonneg v
      have OW := O.later HO.out.2
      obtain ⟨Oc, Of⟩ := OW.open
      have OS : Hid (OutsP u3 wr _ (ringN (wn : Int) x y (1 + r) (wn * v + 0))) := Lib.hid HO.out
      go_wp2
      go_loopw [11, 13] (fun vv iv wr => ∃ u : Nat, u ≤ wn ∧ iv = .int .i64 u ∧ OutsP u3 wr vv (ringN (wn : Int) x y (1 + r) (wn * v + u))) (fun _ iv _ => wn - (intOf iv).toNat)
      case atStart => exact ⟨0, Nat.zero_le _, rfl, OS.out⟩
      case round =>
        obtain ⟨u, hu, rfl, hout⟩ := hrel
        clear Oc Of OW HO OS
        have HO := Lib.hid hout; clear hout
        have OW := O.later HO.out.2
        obtain ⟨Oc, Of⟩ := OW.open
        by_cases hlu : u < wn
        · skip
          have hui : (u : Int) < (wn : Int) := by omega
          have u0 : (0 : Int) ≤ (u : Int) := Int.natCast_nonneg u
          have hlen : (ringN (wn : Int) x y (1 + r) (wn * v + u)).length ≤ 100 := Nat.le_trans (ringN_len _ _ _ _ _) (by have := Nat.mul_le_mul (show wn ≤ 6 by omega) (show v ≤ 6 by omega); omega)
          by_cases ha : (u : Int) - x < x - (u : Int)
          · skip
            by_cases hb : (v : Int) - y < y - (v : Int)
            · skip
              by_cases hc : (x - (u : Int)) < (y - (v : Int))
              · skip
                have HP : Hid (ringP (wn : Int) x y (1 + r) (wn * v + u) = decide ((y - (v : Int)) = (1 + r))) := Lib.hid (ringP_at hlu (by omega))
                by_cases he : (y - (v : Int)) = (1 + r)
                · skip
                  have d1 : ((y - (v : Int)) == (1 + r)) = true := by simpa using he
                  have HN : Hid (ringN (wn : Int) x y (1 + r) (wn * v + u + 1) = ringN (wn : Int) x y (1 + r) (wn * v + u) ++ [((u : Int), (v : Int))]) := Lib.hid (by rw [ringN_yes (by rw [HP.out]; exact decide_eq_true he), (ring_at hlu).1, (ring_at hlu).2])
                  have hown := HO.out.1
                  clear HP
                  go_wp2_with (at_builtin; refine wpList_append_own _ rfl _ _ 29 rfl u3.heap.size 33 ti (.agg #[.int .i64 0, .int .i64 0]) 2 16 Try.underlying29 HI.out HZ0.out HZ1.out HZ2.out rfl (by decide) _ _ _ rfl (hown.alloc _) ⟨wr.heap.size, 0, none⟩ 1 1 [.int .i64 (u : Int), .int .i64 (v : Int)] rfl rfl (oneP_news _ _ _) (oneP_cells _ _) (by unfold maxLen; omega) (by omega) (by have := HO.out.2.size; simp; omega) ?_; intro v' w9 hown' hgrow _)
                  have HO2 := Lib.hid (outsP_next (z := ((u : Int), (v : Int))) HO.out hown' hgrow); clear hown hown' hgrow
                  go_wp2
                  go_roundw
                  case rel => exact ⟨u + 1, by omega, by go_num, by rw [← Nat.add_assoc, HN.out]; exact HO2.out⟩
                  case measure => simp [intOf]; omega
                · skip
                  have d1 : ((y - (v : Int)) == (1 + r)) = false := by simpa using he
                  have HN : Hid (ringN (wn : Int) x y (1 + r) (wn * v + u + 1) = ringN (wn : Int) x y (1 + r) (wn * v + u)) := Lib.hid (ringN_no (by rw [HP.out]; exact decide_eq_false he))
                  clear HP
                  go_wp2
                  go_roundw
                  case rel => exact ⟨u + 1, by omega, by go_num, by rw [← Nat.add_assoc, HN.out]; exact HO.out⟩
                  case measure => simp [intOf]; omega
              · skip
                have HP : Hid (ringP (wn : Int) x y (1 + r) (wn * v + u) = decide ((x - (u : Int)) = (1 + r))) := Lib.hid (ringP_at hlu (by omega))
                by_cases he : (x - (u : Int)) = (1 + r)
                · skip
                  have d1 : ((x - (u : Int)) == (1 + r)) = true := by simpa using he
                  have HN : Hid (ringN (wn : Int) x y (1 + r) (wn * v + u + 1) = ringN (wn : Int) x y (1 + r) (wn * v + u) ++ [((u : Int), (v : Int))]) := Lib.hid (by rw [ringN_yes (by rw [HP.out]; exact decide_eq_true he), (ring_at hlu).1, (ring_at hlu).2])
                  have hown := HO.out.1
                  clear HP
                  go_wp2_with (at_builtin; refine wpList_append_own _ rfl _ _ 29 rfl u3.heap.size 33 ti (.agg #[.int .i64 0, .int .i64 0]) 2 16 Try.underlying29 HI.out HZ0.out HZ1.out HZ2.out rfl (by decide) _ _ _ rfl (hown.alloc _) ⟨wr.heap.size, 0, none⟩ 1 1 [.int .i64 (u : Int), .int .i64 (v : Int)] rfl rfl (oneP_news _ _ _) (oneP_cells _ _) (by unfold maxLen; omega) (by omega) (by have := HO.out.2.size; simp; omega) ?_; intro v' w9 hown' hgrow _)
                  have HO2 := Lib.hid (outsP_next (z := ((u : Int), (v : Int))) HO.out hown' hgrow); clear hown hown' hgrow
                  go_wp2
                  go_roundw
                  case rel => exact ⟨u + 1, by omega, by go_num, by rw [← Nat.add_assoc, HN.out]; exact HO2.out⟩
                  case measure => simp [intOf]; omega
                · skip
                  have d1 : ((x - (u : Int)) == (1 + r)) = false := by simpa using he
                  have HN : Hid (ringN (wn : Int) x y (1 + r) (wn * v + u + 1) = ringN (wn : Int) x y (1 + r) (wn * v + u)) := Lib.hid (ringN_no (by rw [HP.out]; exact decide_eq_false he))
                  clear HP
                  go_wp2
                  go_roundw
                  case rel => exact ⟨u + 1, by omega, by go_num, by rw [← Nat.add_assoc, HN.out]; exact HO.out⟩
                  case measure => simp [intOf]; omega
            · skip
              by_cases hc : (x - (u : Int)) < ((v : Int) - y)
              · skip
                have HP : Hid (ringP (wn : Int) x y (1 + r) (wn * v + u) = decide (((v : Int) - y) = (1 + r))) := Lib.hid (ringP_at hlu (by omega))
                by_cases he : ((v : Int) - y) = (1 + r)
                · skip
                  have d1 : (((v : Int) - y) == (1 + r)) = true := by simpa using he
                  have HN : Hid (ringN (wn : Int) x y (1 + r) (wn * v + u + 1) = ringN (wn : Int) x y (1 + r) (wn * v + u) ++ [((u : Int), (v : Int))]) := Lib.hid (by rw [ringN_yes (by rw [HP.out]; exact decide_eq_true he), (ring_at hlu).1, (ring_at hlu).2])
                  have hown := HO.out.1
                  clear HP
                  go_wp2_with (at_builtin; refine wpList_append_own _ rfl _ _ 29 rfl u3.heap.size 33 ti (.agg #[.int .i64 0, .int .i64 0]) 2 16 Try.underlying29 HI.out HZ0.out HZ1.out HZ2.out rfl (by decide) _ _ _ rfl (hown.alloc _) ⟨wr.heap.size, 0, none⟩ 1 1 [.int .i64 (u : Int), .int .i64 (v : Int)] rfl rfl (oneP_news _ _ _) (oneP_cells _ _) (by unfold maxLen; omega) (by omega) (by have := HO.out.2.size; simp; omega) ?_; intro v' w9 hown' hgrow _)
                  have HO2 := Lib.hid (outsP_next (z := ((u : Int), (v : Int))) HO.out hown' hgrow); clear hown hown' hgrow
                  go_wp2
                  go_roundw
                  case rel => exact ⟨u + 1, by omega, by go_num, by rw [← Nat.add_assoc, HN.out]; exact HO2.out⟩
                  case measure => simp [intOf]; omega
                · skip
                  have d1 : (((v : Int) - y) == (1 + r)) = false := by simpa using he
                  have HN : Hid (ringN (wn : Int) x y (1 + r) (wn * v + u + 1) = ringN (wn : Int) x y (1 + r) (wn * v + u)) := Lib.hid (ringN_no (by rw [HP.out]; exact decide_eq_false he))
                  clear HP
                  go_wp2
                  go_roundw
                  case rel => exact ⟨u + 1, by omega, by go_num, by rw [← Nat.add_assoc, HN.out]; exact HO.out⟩
                  case measure => simp [intOf]; omega
              · skip
                have HP : Hid (ringP (wn : Int) x y (1 + r) (wn * v + u) = decide ((x - (u : Int)) = (1 + r))) := Lib.hid (ringP_at hlu (by omega))
                by_cases he : (x - (u : Int)) = (1 + r)
                · skip
                  have d1 : ((x - (u : Int)) == (1 + r)) = true := by simpa using he
                  have HN : Hid (ringN (wn : Int) x y (1 + r) (wn * v + u + 1) = ringN (wn : Int) x y (1 + r) (wn * v + u) ++ [((u : Int), (v : Int))]) := Lib.hid (by rw [ringN_yes (by rw [HP.out]; exact decide_eq_true he), (ring_at hlu).1, (ring_at hlu).2])
                  have hown := HO.out.1
                  clear HP
                  go_wp2_with (at_builtin; refine wpList_append_own _ rfl _ _ 29 rfl u3.heap.size 33 ti (.agg #[.int .i64 0, .int .i64 0]) 2 16 Try.underlying29 HI.out HZ0.out HZ1.out HZ2.out rfl (by decide) _ _ _ rfl (hown.alloc _) ⟨wr.heap.size, 0, none⟩ 1 1 [.int .i64 (u : Int), .int .i64 (v : Int)] rfl rfl (oneP_news _ _ _) (oneP_cells _ _) (by unfold maxLen; omega) (by omega) (by have := HO.out.2.size; simp; omega) ?_; intro v' w9 hown' hgrow _)
                  have HO2 := Lib.hid (outsP_next (z := ((u : Int), (v : Int))) HO.out hown' hgrow); clear hown hown' hgrow
                  go_wp2
                  go_roundw
                  case rel => exact ⟨u + 1, by omega, by go_num, by rw [← Nat.add_assoc, HN.out]; exact HO2.out⟩
                  case measure => simp [intOf]; omega
                · skip
                  have d1 : ((x - (u : Int)) == (1 + r)) = false := by simpa using he
                  have HN : Hid (ringN (wn : Int) x y (1 + r) (wn * v + u + 1) = ringN (wn : Int) x y (1 + r) (wn * v + u)) := Lib.hid (ringN_no (by rw [HP.out]; exact decide_eq_false he))
                  clear HP
                  go_wp2
                  go_roundw
                  case rel => exact ⟨u + 1, by omega, by go_num, by rw [← Nat.add_assoc, HN.out]; exact HO.out⟩
                  case measure => simp [intOf]; omega
          · skip
            by_cases hb : (v : Int) - y < y - (v : Int)
            · skip
              by_cases hc : ((u : Int) - x) < (y - (v : Int))
              · skip
                have HP : Hid (ringP (wn : Int) x y (1 + r) (wn * v + u) = decide ((y - (v : Int)) = (1 + r))) := Lib.hid (ringP_at hlu (by omega))
                by_cases he : (y - (v : Int)) = (1 + r)
                · skip
                  have d1 : ((y - (v : Int)) == (1 + r)) = true := by simpa using he
                  have HN : Hid (ringN (wn : Int) x y (1 + r) (wn * v + u + 1) = ringN (wn : Int) x y (1 + r) (wn * v + u) ++ [((u : Int), (v : Int))]) := Lib.hid (by rw [ringN_yes (by rw [HP.out]; exact decide_eq_true he), (ring_at hlu).1, (ring_at hlu).2])
                  have hown := HO.out.1
                  clear HP
                  go_wp2_with (at_builtin; refine wpList_append_own _ rfl _ _ 29 rfl u3.heap.size 33 ti (.agg #[.int .i64 0, .int .i64 0]) 2 16 Try.underlying29 HI.out HZ0.out HZ1.out HZ2.out rfl (by decide) _ _ _ rfl (hown.alloc _) ⟨wr.heap.size, 0, none⟩ 1 1 [.int .i64 (u : Int), .int .i64 (v : Int)] rfl rfl (oneP_news _ _ _) (oneP_cells _ _) (by unfold maxLen; omega) (by omega) (by have := HO.out.2.size; simp; omega) ?_; intro v' w9 hown' hgrow _)
                  have HO2 := Lib.hid (outsP_next (z := ((u : Int), (v : Int))) HO.out hown' hgrow); clear hown hown' hgrow
                  go_wp2
                  go_roundw
                  case rel => exact ⟨u + 1, by omega, by go_num, by rw [← Nat.add_assoc, HN.out]; exact HO2.out⟩
                  case measure => simp [intOf]; omega
                · skip
                  have d1 : ((y - (v : Int)) == (1 + r)) = false := by simpa using he
                  have HN : Hid (ringN (wn : Int) x y (1 + r) (wn * v + u + 1) = ringN (wn : Int) x y (1 + r) (wn * v + u)) := Lib.hid (ringN_no (by rw [HP.out]; exact decide_eq_false he))
                  clear HP
                  go_wp2
                  go_roundw
                  case rel => exact ⟨u + 1, by omega, by go_num, by rw [← Nat.add_assoc, HN.out]; exact HO.out⟩
                  case measure => simp [intOf]; omega
              · skip
                have HP : Hid (ringP (wn : Int) x y (1 + r) (wn * v + u) = decide (((u : Int) - x) = (1 + r))) := Lib.hid (ringP_at hlu (by omega))
                by_cases he : ((u : Int) - x) = (1 + r)
                · skip
                  have d1 : (((u : Int) - x) == (1 + r)) = true := by simpa using he
                  have HN : Hid (ringN (wn : Int) x y (1 + r) (wn * v + u + 1) = ringN (wn : Int) x y (1 + r) (wn * v + u) ++ [((u : Int), (v : Int))]) := Lib.hid (by rw [ringN_yes (by rw [HP.out]; exact decide_eq_true he), (ring_at hlu).1, (ring_at hlu).2])
                  have hown := HO.out.1
                  clear HP
                  go_wp2_with (at_builtin; refine wpList_append_own _ rfl _ _ 29 rfl u3.heap.size 33 ti (.agg #[.int .i64 0, .int .i64 0]) 2 16 Try.underlying29 HI.out HZ0.out HZ1.out HZ2.out rfl (by decide) _ _ _ rfl (hown.alloc _) ⟨wr.heap.size, 0, none⟩ 1 1 [.int .i64 (u : Int), .int .i64 (v : Int)] rfl rfl (oneP_news _ _ _) (oneP_cells _ _) (by unfold maxLen; omega) (by omega) (by have := HO.out.2.size; simp; omega) ?_; intro v' w9 hown' hgrow _)
                  have HO2 := Lib.hid (outsP_next (z := ((u : Int), (v : Int))) HO.out hown' hgrow); clear hown hown' hgrow
                  go_wp2
                  go_roundw
                  case rel => exact ⟨u + 1, by omega, by go_num, by rw [← Nat.add_assoc, HN.out]; exact HO2.out⟩
                  case measure => simp [intOf]; omega
                · skip
                  have d1 : (((u : Int) - x) == (1 + r)) = false := by simpa using he
                  have HN : Hid (ringN (wn : Int) x y (1 + r) (wn * v + u + 1) = ringN (wn : Int) x y (1 + r) (wn * v + u)) := Lib.hid (ringN_no (by rw [HP.out]; exact decide_eq_false he))
                  clear HP
                  go_wp2
                  go_roundw
                  case rel => exact ⟨u + 1, by omega, by go_num, by rw [← Nat.add_assoc, HN.out]; exact HO.out⟩
                  case measure => simp [intOf]; omega
            · skip
              by_cases hc : ((u : Int) - x) < ((v : Int) - y)
              · skip
                have HP : Hid (ringP (wn : Int) x y (1 + r) (wn * v + u) = decide (((v : Int) - y) = (1 + r))) := Lib.hid (ringP_at hlu (by omega))
                by_cases he : ((v : Int) - y) = (1 + r)
                · skip
                  have d1 : (((v : Int) - y) == (1 + r)) = true := by simpa using he
                  have HN : Hid (ringN (wn : Int) x y (1 + r) (wn * v + u + 1) = ringN (wn : Int) x y (1 + r) (wn * v + u) ++ [((u : Int), (v : Int))]) := Lib.hid (by rw [ringN_yes (by rw [HP.out]; exact decide_eq_true he), (ring_at hlu).1, (ring_at hlu).2])
                  have hown := HO.out.1
                  clear HP
                  go_wp2_with (at_builtin; refine wpList_append_own _ rfl _ _ 29 rfl u3.heap.size 33 ti (.agg #[.int .i64 0, .int .i64 0]) 2 16 Try.underlying29 HI.out HZ0.out HZ1.out HZ2.out rfl (by decide) _ _ _ rfl (hown.alloc _) ⟨wr.heap.size, 0, none⟩ 1 1 [.int .i64 (u : Int), .int .i64 (v : Int)] rfl rfl (oneP_news _ _ _) (oneP_cells _ _) (by unfold maxLen; omega) (by omega) (by have := HO.out.2.size; simp; omega) ?_; intro v' w9 hown' hgrow _)
                  have HO2 := Lib.hid (outsP_next (z := ((u : Int), (v : Int))) HO.out hown' hgrow); clear hown hown' hgrow
                  go_wp2
                  go_roundw
                  case rel => exact ⟨u + 1, by omega, by go_num, by rw [← Nat.add_assoc, HN.out]; exact HO2.out⟩
                  case measure => simp [intOf]; omega
                · skip
                  have d1 : (((v : Int) - y) == (1 + r)) = false := by simpa using he
                  have HN : Hid (ringN (wn : Int) x y (1 + r) (wn * v + u + 1) = ringN (wn : Int) x y (1 + r) (wn * v + u)) := Lib.hid (ringN_no (by rw [HP.out]; exact decide_eq_false he))
                  clear HP
                  go_wp2
                  go_roundw
                  case rel => exact ⟨u + 1, by omega, by go_num, by rw [← Nat.add_assoc, HN.out]; exact HO.out⟩
                  case measure => simp [intOf]; omega
              · skip
                have HP : Hid (ringP (wn : Int) x y (1 + r) (wn * v + u) = decide (((u : Int) - x) = (1 + r))) := Lib.hid (ringP_at hlu (by omega))
                by_cases he : ((u : Int) - x) = (1 + r)
                · skip
                  have d1 : (((u : Int) - x) == (1 + r)) = true := by simpa using he
                  have HN : Hid (ringN (wn : Int) x y (1 + r) (wn * v + u + 1) = ringN (wn : Int) x y (1 + r) (wn * v + u) ++ [((u : Int), (v : Int))]) := Lib.hid (by rw [ringN_yes (by rw [HP.out]; exact decide_eq_true he), (ring_at hlu).1, (ring_at hlu).2])
                  have hown := HO.out.1
                  clear HP
                  go_wp2_with (at_builtin; refine wpList_append_own _ rfl _ _ 29 rfl u3.heap.size 33 ti (.agg #[.int .i64 0, .int .i64 0]) 2 16 Try.underlying29 HI.out HZ0.out HZ1.out HZ2.out rfl (by decide) _ _ _ rfl (hown.alloc _) ⟨wr.heap.size, 0, none⟩ 1 1 [.int .i64 (u : Int), .int .i64 (v : Int)] rfl rfl (oneP_news _ _ _) (oneP_cells _ _) (by unfold maxLen; omega) (by omega) (by have := HO.out.2.size; simp; omega) ?_; intro v' w9 hown' hgrow _)
                  have HO2 := Lib.hid (outsP_next (z := ((u : Int), (v : Int))) HO.out hown' hgrow); clear hown hown' hgrow
                  go_wp2
                  go_roundw
                  case rel => exact ⟨u + 1, by omega, by go_num, by rw [← Nat.add_assoc, HN.out]; exact HO2.out⟩
                  case measure => simp [intOf]; omega
                · skip
                  have d1 : (((u : Int) - x) == (1 + r)) = false := by simpa using he
                  have HN : Hid (ringN (wn : Int) x y (1 + r) (wn * v + u + 1) = ringN (wn : Int) x y (1 + r) (wn * v + u)) := Lib.hid (ringN_no (by rw [HP.out]; exact decide_eq_false he))
                  clear HP
                  go_wp2
                  go_roundw
                  case rel => exact ⟨u + 1, by omega, by go_num, by rw [← Nat.add_assoc, HN.out]; exact HO.out⟩
                  case measure => simp [intOf]; omega
        · skip
          obtain rfl : u = wn := by omega
          go_wp2
          go_roundw
          case rel => exact ⟨v + 1, by omega, by go_num, HO.out⟩
          case measure => simp [intOf]; omega
    · skip
      obtain rfl : v = hh := by omega
      have HLL : Hid (ringN (wn : Int) x y (1 + r) (wn * v) = ringL (wn : Int) (v : Int) x y (1 + r)) := Lib.hid (by unfold ringL; rw [← Int.natCast_mul]; rfl)
      replace HO : Hid (OutsP u3 wr _ (ringL (wn : Int) (v : Int) x y (1 + r))) := Lib.hid (by rw [← HLL.out]; exact HO.out)
      have hlen : (ringL (wn : Int) (v : Int) x y (1 + r)).length ≤ 36 := by rw [← HLL.out]; exact Nat.le_trans (ringN_len _ _ _ _ _) HM.out
      have HCE : Hid (∀ p ∈ ringL (wn : Int) (v : Int) x y (1 + r), cellB (wn : Int) (v : Int) p.1 p.2 = true) := Lib.hid (by rw [← HLL.out]; exact ring_cells (by omega) _ (by rw [Int.natCast_mul]; exact Int.le_refl _))
      clear HLL
      generalize ringL (wn : Int) (v : Int) x y (1 + r) = zs at *
      obtain ⟨a8, c8, rfl, hown, hb⟩ := outsP_end HO.out
      have HW := Lib.hid hown; clear hown HO
      replace O := O.later hb; replace X0 := Lib.hid (X0.out.later hb); replace X1 := Lib.hid (X1.out.later hb); replace GO := Lib.hid (GO.out.later hb); replace HB := Lib.hid (HB.out.trans (hb.mono HB.out.size)); clear hb
      by_cases h8 : zs.length ≤ 8
      rotate_left
      · skip
        obtain rfl : B = false := by rw [HBB.out]; exact decide_eq_false h8
        obtain ⟨hps, _⟩ := GS.out
        have hps2 : ps = [] := hps
        have hl9 : ps.length = 0 := by rw [hps2]; rfl
        clear GO GS hps hps2
        generalize ps.length = nn at *
        subst hl9
        have h9 : ¬ (zs.length : Int) ≤ 8 := by omega
        have h10 : (8 : Int) < (zs.length : Int) := by omega
        obtain ⟨Oc, Of⟩ := O.open
        go_wp2_with fail
        refine (implValidSheet _ _ _ _ _ _ _ xs ys _ X0.out X1.out HLX.out HLY.out).mono ?_
        rintro e w9 ⟨rfl, q⟩
        rw [HV.out]
        go_wp2
        go_ret
        exact ⟨rfl, HB.out.trans (q.mono HB.out.size)⟩
      · skip
        obtain rfl : B = true := by rw [HBB.out]; exact decide_eq_true h8
        obtain ⟨hps, _⟩ := GS.out
        have hps2 : ps = zs := hps
        subst hps2
        have h9 : (ps.length : Int) ≤ 8 := by omega
        have HPB : Hid (probesB (wn : Int) (v : Int) ps = true) := Lib.hid (probes_all h8 (fun j hj => HCE.out _ (List.getElem_mem _)))
        clear HBB GS hps HCE
        generalize hlp : ps.length = n at *
        have HLP := Lib.hid hlp; clear hlp
        have n0 : (0 : Int) ≤ (n : Int) := Int.natCast_nonneg n
        obtain ⟨w5, rfl⟩ : ∃ z : World, z = wr := ⟨wr, rfl⟩
        obtain ⟨Oc, Of⟩ := O.open
        go_wp2
        go_loopw [15] (fun iv wr => ∃ k : Nat, k ≤ n ∧ iv = .int .i64 k ∧ Below w5.heap.size w5 wr) (fun iv _ => n - (intOf iv).toNat)
        case atStart => exact ⟨0, Nat.zero_le _, rfl, Below.refl _ _⟩
        case round =>
          obtain ⟨k, hk, rfl, hbel⟩ := hrel
          clear Oc Of
          have HB7 := Lib.hid hbel; clear hbel
          by_cases hlt : k < n
          · skip
            have k1 : k < ps.length := by rw [HLP.out]; exact hlt
            have hki : (k : Int) < (n : Int) := by omega
            have k0' : (0 : Int) ≤ (k : Int) := Int.natCast_nonneg k
            have hx := pvals_get k1
            obtain ⟨ba, oa, e1, d0⟩ := (GO.out.row.later HB7.out) _ _ hx.1
            obtain ⟨ba', oa', e2, d1⟩ := (GO.out.row.later HB7.out) _ _ hx.2
            rw [e1] at e2; cases e2
            obtain ⟨bb, ob, e3, d2⟩ := (HW.out.row.later HB7.out) _ _ hx.1
            obtain ⟨bb', ob', e4, d3⟩ := (HW.out.row.later HB7.out) _ _ hx.2
            rw [e3] at e4; cases e4
            subst e1; subst e3
            clear hx
            generalize ps[k].1 = p1 at *
            generalize ps[k].2 = p2 at *
            have RG : ∀ (b o : Nat), wr.cell? ⟨b, o + k * 2, none⟩ = some (.int .i64 p1) → wr.cell? ⟨b, o + (k * 2 + 1), none⟩ = some (.int .i64 p2) → ∀ w', Grows wr w' → (loadVar 33 ⟨b, o + k * 2, none⟩).run Try.prog w' = .ok (.agg #[.int .i64 p1, .int .i64 p2]) w' := fun b o h1 h2 w' hw' => run_loadVar_mid w' b (o + k * 2) 33 [.int .i64 p1, .int .i64 p2] _ (fun j v hv => match j, hv with
              | 0, hv => by simp at hv; subst hv; exact cell_on h1 hw'
              | 1, hv => by simp at hv; subst hv; rw [Nat.add_assoc]; exact cell_on h2 hw'
              | j + 2, hv => by simp at hv) Try.underlying33 rfl (by kernel_rfl)
            have LA := RG _ _ d0 d1
            have LB := RG _ _ d2 d3
            clear RG
            go_upto_region 27 with (fail)
            refine wp_region_noPanic ?_
            refine wp_region_plan (Grows wr) 8 [(0, true), (1, true), (2, true), (3, true), (4, true), (5, true), (6, true), (7, true)] (by kernel_rfl) (by kernel_rfl) (fun _ _ _ _ _ h => h) (Grows.drew _) ?_
            (refine plan_plain rfl rfl ?_ ?_ ?_; rotate_left; focus (intro w9; go_simp <;> with_reducible rfl)); (simp only [Act.put, List.setIfInBounds_toArray, List.set_cons_zero, List.set_cons_succ])
            (refine plan_plain rfl rfl ?_ ?_ ?_; rotate_left; focus (intro w9; go_simp <;> with_reducible rfl)); (simp only [Act.put, List.setIfInBounds_toArray, List.set_cons_zero, List.set_cons_succ])
            (refine plan_plain rfl rfl ?_ ?_ ?_; rotate_left; focus (intro w9; go_simp <;> with_reducible rfl)); (simp only [Act.put, List.setIfInBounds_toArray, List.set_cons_zero, List.set_cons_succ])
            (refine plan_load rfl rfl (⟨ba, oa + k * 2, none⟩) (by kernel_rfl) (.agg #[.int .i64 p1, .int .i64 p2]) (LA) ?_; simp only [Act.put, List.setIfInBounds_toArray, List.set_cons_zero, List.set_cons_succ])
            (refine plan_plain rfl rfl ?_ ?_ ?_; rotate_left; focus (intro w9; go_simp <;> with_reducible rfl)); (simp only [Act.put, List.setIfInBounds_toArray, List.set_cons_zero, List.set_cons_succ])
            (refine plan_plain rfl rfl ?_ ?_ ?_; rotate_left; focus (intro w9; go_simp <;> with_reducible rfl)); (simp only [Act.put, List.setIfInBounds_toArray, List.set_cons_zero, List.set_cons_succ])
            (refine plan_plain rfl rfl ?_ ?_ ?_; rotate_left; focus (intro w9; go_simp <;> with_reducible rfl)); (simp only [Act.put, List.setIfInBounds_toArray, List.set_cons_zero, List.set_cons_succ])
            (refine plan_load rfl rfl (⟨bb, ob + k * 2, none⟩) (by kernel_rfl) (.agg #[.int .i64 p1, .int .i64 p2]) (LB) ?_; simp only [Act.put, List.setIfInBounds_toArray, List.set_cons_zero, List.set_cons_succ])
            have v0_ := Grows.drew wr
            generalize wr.drew = y0 at *
            change wpList _ _ _ _ _ _
            simp only [List.drop_succ_cons, List.drop_zero]
            go_wp2_with fail
            refine NoPanic.normal ?_
            go_wp2
            go_roundw
            case rel => exact ⟨k + 1, by omega, by go_num, HB7.out.trans (Below.mono v0_ HB7.out.size)⟩
            case measure => simp [intOf]; omega
          · skip
            obtain rfl : k = n := by omega
            have OW := O.later HB7.out
            obtain ⟨Oc, Of⟩ := OW.open
            have HPN : ps.length ≤ maxLen := by rw [HLP.out]; unfold maxLen; omega
            have HX0 := Lib.hid (X0.out.later HB7.out); have HX1 := Lib.hid (X1.out.later HB7.out)
            have CA : ∀ z, Below w5.heap.size w5 z → Calls Try.prog 9 #[.agg #[.int .i64 (wn : Int), .int .i64 (v : Int), .bool wb, .slice s0 xs.length k0, .slice s1 ys.length k1], .slice a9 k c9] z fun e w' => e = .returned (.bool true) ∧ Below z.heap.size z w' := fun z hz => by
              have := implAreProbes (wn : Int) (v : Int) wb s0 s1 k0 k1 xs ys a9 c9 ps z (X0.out.later hz) (X1.out.later hz) HLX.out HLY.out (GO.out.row.later hz) HPN
              rw [HV.out, HPB.out, HLP.out] at this; exact this
            have HCA := Lib.hid CA; clear CA
            go_wp2_with fail
            refine (HCA.out _ HB7.out).mono ?_
            rintro e w9 ⟨rfl, q⟩
            go_wp2
            go_ret
            exact ⟨rfl, (HB.out.trans (HB7.out.mono HB.out.size)).trans (q.mono (HB.out.trans (HB7.out.mono HB.out.size)).size)⟩
end Go.Proofs.Ytagjlfnlbfgfaaa
