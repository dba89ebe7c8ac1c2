/- Lists of strips that are compared, marked and looked at again. Conditions: none beyond those of each theorem. -/
import Derived.Test.YtedfbaeajofmnaaPair
import Derived.Test.YtedfbaeajofmnaaBu14
namespace Go.Proofs.Ytedfbaeajofmnaa
open Go Ieee Go.RowKit
set_option linter.unusedVariables false

theorem eqStrip_any (x y : Int) (w : World) : Calls Try.prog 70 #[.agg #[.int .i64 x, .int .i64 y], .agg #[.int .i64 x, .int .i64 y]] w fun e w' => e = .returned (.bool true) ∧ Below w.heap.size w w' := by
  have HB : Hid (Below w.heap.size w ((w.alloc (.cells #[.int .i64 x, .int .i64 y] 31)).alloc (.cells #[.int .i64 x, .int .i64 y] 31))) := Lib.hid (((Below.refl w.heap.size w).alloc (Nat.le_refl _) _).alloc (by simp) _)
  go_enter Try.func70, Try.ntmps70
  go_wp2
  go_ret
  exact ⟨rfl, HB.out⟩

set_option maxHeartbeats 2000000 in
theorem eqStripS_any (a b : Option Addr) (ca cb : Nat) (ps : List (Int × Int)) (w : World) (ha : RowV w a (pvals ps)) (hb : RowV w b (pvals ps)) (hn : ps.length ≤ maxLen) :
    Calls Try.prog 28 #[.slice a ps.length ca, .slice b ps.length cb] w fun e w' => e = .returned (.bool true) ∧ Below w.heap.size w w' := by
  unfold maxLen at hn
  generalize hlen : ps.length = n at hn ⊢
  have HL := Lib.hid hlen; clear hlen
  go_enter Try.func28, Try.ntmps28
  go_wp2
  go_loopw [5] (fun i wr => ∃ k : Nat, k ≤ n ∧ i = .int .i64 k ∧ Below w.heap.size w wr) (fun i _ => n - (intOf i).toNat)
  case atStart => exact ⟨0, Nat.zero_le _, rfl, Below.refl _ _⟩
  case round =>
    obtain ⟨k, hk, rfl, hbel⟩ := hrel
    have HW := Lib.hid hbel; clear hbel
    by_cases hlt : k < n
    · have hx := pvals_get (ps := ps) (k := k) (by rw [HL.out]; exact hlt)
      obtain ⟨b1, o1, rfl, d0⟩ := ha _ _ hx.1
      obtain ⟨b1', o1', e1', d1⟩ := ha _ _ hx.2
      cases e1'
      obtain ⟨b2, o2, rfl, d2⟩ := hb _ _ hx.1
      obtain ⟨b2', o2', e2', d3⟩ := hb _ _ hx.2
      cases e2'
      have c0 : wr.cell? ⟨b1, o1 + k * 2, none⟩ = _ := (Below.cell HW.out (p := ⟨b1, o1 + k * 2, none⟩) (lt_of_cell d0)).trans d0
      have c1 : wr.cell? ⟨b1, o1 + k * 2 + 1, none⟩ = _ := (Below.cell HW.out (p := ⟨b1, o1 + (k * 2 + 1), none⟩) (lt_of_cell d1)).trans d1
      have c2 : wr.cell? ⟨b2, o2 + k * 2, none⟩ = _ := (Below.cell HW.out (p := ⟨b2, o2 + k * 2, none⟩) (lt_of_cell d2)).trans d2
      have c3 : wr.cell? ⟨b2, o2 + k * 2 + 1, none⟩ = _ := (Below.cell HW.out (p := ⟨b2, o2 + (k * 2 + 1), none⟩) (lt_of_cell d3)).trans d3
      clear d0 d1 d2 d3 hx ha hb
      generalize (ps[k]'(by rw [HL.out]; exact hlt)).1 = x at *
      generalize (ps[k]'(by rw [HL.out]; exact hlt)).2 = y at *
      have hki : ((k : Nat) : Int) < (n : Int) := by omega
      go_wp2_with fail
      go_region_held3 (fun w' => w'.cell? ⟨b1, o1 + k * 2, none⟩ = some (.int .i64 x) ∧ w'.cell? ⟨b1, o1 + k * 2 + 1, none⟩ = some (.int .i64 y) ∧ w'.cell? ⟨b2, o2 + k * 2, none⟩ = some (.int .i64 x) ∧ w'.cell? ⟨b2, o2 + k * 2 + 1, none⟩ = some (.int .i64 y) ∧ Below wr.heap.size wr w') (first | with_reducible exact keep0c4_start c0 c1 c2 c3 | with_reducible exact keep0c4_later c0 c1 c2 c3 (by assumption) (by assumption))
        ((go_at_call 70; (with_reducible refine (eqStrip_any _ _ _).mono ?_); rintro r v2 ⟨rfl, qa⟩))
      have q := (below_next (below_drew wr) qa)
      clear qa
      replace HW := Lib.hid (HW.out.trans (q.mono HW.out.size))
      go_wp2
      go_roundw
      case rel => exact ⟨k + 1, by omega, by go_num, HW.out⟩
      case measure => simp [intOf]; omega
    · obtain rfl : k = n := by omega
      go_wp2
      go_ret
      exact ⟨rfl, HW.out⟩

set_option maxHeartbeats 2000000 in
theorem markSt (B : Nat) (a : Option Addr) (ca n : Nat) (vs : List Value) (k : Int) (w : World) (hr : OwnV w B a vs) (hl : vs.length = n * 2) (hk : 0 ≤ k) (hn : k + n * 2 ≤ 16777216) :
    Calls Try.prog 29 #[.slice a n ca, .int .i64 k] w (MarkedI B a k (n * 2) w) := by
  rcases hr with ⟨rfl, rfl⟩ | ⟨g, cs, t, rfl, hg, hb, hv⟩
  · obtain rfl : n = 0 := by simp at hl; omega
    go_enter Try.func29, Try.ntmps29
    go_wp2
    refine wp_loop_rounds 1 ?_
    rw [rounds_succ]
    go_wp2
    go_ret
    exact ⟨by simp, .inl ⟨rfl, by simp [marksI, ivals]⟩, grown_refl _ _⟩
  · have HL := Lib.hid hl
    have HV := Lib.hid hv
    clear hl hv
    go_enter Try.func29, Try.ntmps29
    go_wp2
    go_loopw [1, 5] (fun q i wr => ∃ j : Nat, j ≤ n ∧ i = .int .i64 j ∧ q = .int .i64 (k + j * 2) ∧ (∃ cr, Blk wr g cr t ∧ ∀ (i : Nat) (u : Value), (markedI k vs (j * 2))[i]? = some u → cr[i]? = some u) ∧ w.grownBy wr (some g)) (fun _ i _ => n - (intOf i).toNat)
    case atStart => exact ⟨0, Nat.zero_le _, rfl, by simp, ⟨cs, hb, by rw [Nat.zero_mul, markedI_zero]; exact HV.out⟩, grown_refl _ _⟩
    case round =>
      obtain ⟨j, hj, rfl, rfl, ⟨cr, hcr, hvr⟩, hgr⟩ := hrel
      have HVR := Lib.hid hvr
      have HGR := Lib.hid hgr
      clear hvr hgr
      by_cases hlt : j < n
      · have hml := markedI_length k vs (j * 2) (by rw [HL.out]; omega)
        obtain ⟨old, ho⟩ : ∃ u, (markedI k vs (j * 2))[j * 2]? = some u := ⟨_, List.getElem?_eq_getElem (by rw [hml, HL.out]; omega)⟩
        obtain ⟨old2, ho2⟩ : ∃ u, (markedI k vs (j * 2))[j * 2 + 1]? = some u := ⟨_, List.getElem?_eq_getElem (by rw [hml, HL.out]; omega)⟩
        have hold := HVR.out _ _ ho
        have hold2 := HVR.out _ _ ho2
        have hsz : j * 2 + 1 < cr.size := (Array.getElem?_eq_some_iff.1 hold2).1
        have hc := hcr.open.1 (j * 2)
        have hc2 := hcr.open.1 (j * 2 + 1)
        have hf := hcr.open.2 (j * 2)
        have hf2 := hcr.open.2 (j * 2 + 1)
        rw [hold] at hc
        rw [hold2] at hc2
        have HM := Lib.hid (markedI_next k vs (j * 2) (by rw [HL.out]; omega))
        have HM2 := Lib.hid (markedI_next k vs (j * 2 + 1) (by rw [HL.out]; omega))
        have HS := Lib.hid ((hcr.set (j * 2) (.int .i64 (k + j * 2))).set (j * 2 + 1) (.int .i64 (k + j * 2 + 1)))
        have HZ := Lib.hid hsz
        clear hold hold2 hml hsz ho ho2
        have hkj : k + (j : Int) * 2 ≤ 16777216 := by omega
        go_wp2
        go_roundw
        case rel =>
          refine ⟨j + 1, by omega, by go_num, by go_num, ⟨_, HS.out, fun i u hu => ?_⟩, grown_set (grown_set HGR.out _ _) _ _⟩
          have e1 : (Value.int IntKind.i64 (k + ((j * 2 : Nat) : Int))) = .int .i64 (k + j * 2) := by simp
          have e2 : (Value.int IntKind.i64 (k + ((j * 2 + 1 : Nat) : Int))) = .int .i64 (k + j * 2 + 1) := by simp; omega
          rw [show (j + 1) * 2 = j * 2 + 1 + 1 by omega, ← HM2.out, ← HM.out, e1, e2, List.getElem?_set] at hu
          rw [Array.getElem?_setIfInBounds]
          by_cases he : j * 2 + 1 = i
          · subst he
            rw [if_pos rfl] at hu ⊢
            rw [Array.size_setIfInBounds, if_pos HZ.out]
            split at hu
            · exact hu
            · cases hu
          · rw [if_neg he] at hu ⊢
            rw [List.getElem?_set] at hu
            rw [Array.getElem?_setIfInBounds]
            by_cases he0 : j * 2 = i
            · subst he0
              rw [if_pos rfl] at hu ⊢
              rw [if_pos (by have := HZ.out; omega)]
              split at hu
              · exact hu
              · cases hu
            · rw [if_neg he0] at hu ⊢
              exact HVR.out i u hu
        case measure => simp [intOf]; omega
      · obtain rfl : j = n := by omega
        go_wp2
        go_ret
        refine ⟨by simp, .inr ⟨g, cr, t, rfl, hg, hcr, ?_⟩, HGR.out⟩
        have := HVR.out
        rw [← HL.out, markedI_all] at this
        rw [← HL.out]; exact this

set_option maxHeartbeats 2000000 in
theorem heldSt (a : Option Addr) (ca n : Nat) (k : Int) (w : World) (hr : RowV w a (ivals (marksI k (n * 2)))) (hk : 0 ≤ k) (hn : k + n * 2 ≤ 16777216) :
    Calls Try.prog 30 #[.slice a n ca, .int .i64 k] w fun e w' => e = .returned (.int .i64 (k + n * 2)) ∧ w = w' := by
  go_enter Try.func30, Try.ntmps30
  go_wp2
  go_loop [1, 5] (fun q i => ∃ j : Nat, j ≤ n ∧ i = .int .i64 j ∧ q = .int .i64 (k + j * 2)) (fun _ i => n - (intOf i).toNat)
  case atStart => exact ⟨0, Nat.zero_le _, rfl, by simp⟩
  case round =>
    obtain ⟨j, hj, rfl, rfl⟩ := hrel
    by_cases hlt : j < n
    · obtain ⟨b, off, rfl, hc⟩ := hr (j * 2) _ (marksI_get (by omega))
      obtain ⟨b', off', e', hc2⟩ := hr (j * 2 + 1) _ (marksI_get (by omega))
      cases e'
      replace hc : w.cell? ⟨b, off + j * 2, none⟩ = some (.int .i64 (k + (j : Int) * 2)) := by rw [hc]; simp
      replace hc2 : w.cell? ⟨b, off + j * 2 + 1, none⟩ = some (.int .i64 (k + (j : Int) * 2 + 1)) := by rw [show off + j * 2 + 1 = off + (j * 2 + 1) by omega, hc2]; simp; omega
      have hkj : k + (j : Int) * 2 ≤ 16777216 := by omega
      go_wp2
      go_round
      case rel => exact ⟨j + 1, by omega, by go_num, by go_num⟩
      case measure => simp [intOf]; omega
    · obtain rfl : j = n := by omega
      go_wp2
      go_ret
      exact ⟨rfl, rfl⟩

end Go.Proofs.Ytedfbaeajofmnaa
