/- Lists of floats that are measured, marked and looked at again. Conditions: none beyond those of each theorem. -/
import Derived.Test.YtabhjnpmmjmaiabBlk
namespace Go.Proofs.Ytabhjnpmmjmaiab
open Go Ieee Go.RowKit

theorem szF_yes (a : Option Addr) (n ca : Nat) (l : Int) (w : World) (h : (n : Int) ≤ l) (hl : l ≤ 1048576) :
    Calls Try.prog 50 #[.slice a n ca, .int .i64 l] w fun e w' => e = .returned (.int .i64 (l - n)) ∧ w = w' := by
  have h0 : 0 ≤ l - (n : Int) := by omega
  have hn : (n : Int) ≤ 1048576 := by omega
  have hl0 : 0 ≤ l := by omega
  go_enter Try.func50, Try.ntmps50
  go_wp2
  go_ret
  exact ⟨rfl, rfl⟩

theorem szF_no (a : Option Addr) (n ca : Nat) (l : Int) (w : World) (h : l < (n : Int)) (hl : 0 ≤ l) (hl2 : l ≤ 1048576) (hm : n ≤ maxLen) :
    Calls Try.prog 50 #[.slice a n ca, .int .i64 l] w fun e w' => e = .returned (.int .i64 (-1)) ∧ w = w' := by
  unfold maxLen at hm
  have h0 : l - (n : Int) < 0 := by omega
  have hn : (n : Int) ≤ 9223372036854775807 := by omega
  go_enter Try.func50, Try.ntmps50
  go_wp2
  go_ret
  exact ⟨rfl, rfl⟩

/-- what marking leaves -/
def Marked (B : Nat) (a : Option Addr) (k : Int) (n : Nat) (w : World) (e : Ending) (w' : World) : Prop :=
  e = .returned (.int .i64 (k + n)) ∧ OwnV w' B a (fvals (marks k n)) ∧ w.grownBy w' (blockOf a)

theorem grown_refl (w : World) (r : Option Nat) : w.grownBy w r := ⟨rfl, rfl, rfl, Nat.le_refl _, fun _ _ _ => rfl⟩

theorem grown_set {w wr : World} {g : Nat} (h : w.grownBy wr (some g)) (i : Nat) (u : Value) : w.grownBy (wr.setCell ⟨g, i, none⟩ u) (some g) :=
  ⟨h.os, h.tape, h.output, by have := h.size; simp; exact this, fun k hk hne => by
    rw [heap_setCell_other wr ⟨g, i, none⟩ k u (fun e => hne (by rw [e]))]
    exact h.block k hk hne⟩

set_option maxHeartbeats 1000000 in
theorem markF (B : Nat) (a : Option Addr) (ca : Nat) (vs : List Value) (k : Int) (w : World) (hr : OwnV w B a vs) (hk : 0 ≤ k) (hn : k + vs.length ≤ 16777216) :
    Calls Try.prog 65 #[.slice a vs.length ca, .int .i64 k] w (Marked B a k vs.length w) := by
  rcases hr with ⟨rfl, rfl⟩ | ⟨g, cs, t, rfl, hg, hb, hv⟩
  · go_enter Try.func65, Try.ntmps65
    go_wp2
    refine wp_loop_rounds 1 ?_
    rw [rounds_succ]
    go_wp2
    go_ret
    exact ⟨by simp, .inl ⟨rfl, by simp [marks, fvals]⟩, grown_refl _ _⟩
  · generalize hlen : vs.length = n at hn ⊢
    have HL := Lib.hid hlen
    have HV := Lib.hid hv
    clear hlen hv
    go_enter Try.func65, Try.ntmps65
    go_wp2
    go_loopw [1, 5] (fun q i wr => ∃ j : Nat, j ≤ n ∧ i = .int .i64 j ∧ q = .int .i64 (k + j) ∧ (∃ cr, Blk wr g cr t ∧ ∀ (i : Nat) (u : Value), (marked k vs j)[i]? = some u → cr[i]? = some u) ∧ w.grownBy wr (some g)) (fun _ i _ => n - (intOf i).toNat)
    case atStart => exact ⟨0, Nat.zero_le _, rfl, by simp, ⟨cs, hb, by rw [marked_zero]; exact HV.out⟩, grown_refl _ _⟩
    case round =>
      obtain ⟨j, hj, rfl, rfl, ⟨cr, hcr, hvr⟩, hgr⟩ := hrel
      have HVR := Lib.hid hvr
      have HGR := Lib.hid hgr
      clear hvr hgr
      by_cases hlt : j < n
      · have hml := marked_length k vs j (by rw [HL.out]; exact hj)
        obtain ⟨old, ho⟩ : ∃ u, (marked k vs j)[j]? = some u := ⟨_, List.getElem?_eq_getElem (by rw [hml, HL.out]; exact hlt)⟩
        have hold := HVR.out j _ ho
        have hsz : j < cr.size := (Array.getElem?_eq_some_iff.1 hold).1
        have hc := hcr.open.1 j
        have hf := hcr.open.2 j
        rw [hold] at hc
        have HM := Lib.hid (marked_next k vs j (by rw [HL.out]; exact hlt))
        have HS := Lib.hid (hcr.set j (.float .f32 (floatOfInt .f32 (k + j))))
        have HZ := Lib.hid hsz
        clear hold hml hsz ho
        go_wp2
        go_roundw
        case rel =>
          refine ⟨j + 1, by omega, by go_num, by go_num, ⟨_, HS.out, fun i u hu => ?_⟩, grown_set HGR.out _ _⟩
          rw [← HM.out, List.getElem?_set] at hu
          rw [Array.getElem?_setIfInBounds]
          by_cases he : j = i
          · subst he
            rw [if_pos rfl] at hu ⊢
            rw [if_pos HZ.out]
            split at hu
            · exact hu
            · cases hu
          · rw [if_neg he] at hu ⊢
            exact HVR.out i u hu
        case measure => simp [intOf]; omega
      · obtain rfl : j = n := by omega
        go_wp2
        go_ret
        refine ⟨rfl, .inr ⟨g, cr, t, rfl, hg, hcr, ?_⟩, HGR.out⟩
        have := HVR.out
        rw [← HL.out, marked_all] at this
        rw [← HL.out]; exact this

set_option maxHeartbeats 1000000 in
theorem heldF (a : Option Addr) (ca n : Nat) (k : Int) (w : World) (hr : RowV w a (fvals (marks k n))) (hk : 0 ≤ k) (hn : k + n ≤ 16777216) :
    Calls Try.prog 66 #[.slice a n ca, .int .i64 k] w fun e w' => e = .returned (.int .i64 (k + n)) ∧ w = w' := by
  go_enter Try.func66, Try.ntmps66
  go_wp2
  go_loop [1, 5] (fun q i => ∃ j : Nat, j ≤ n ∧ i = .int .i64 j ∧ q = .int .i64 (k + j)) (fun _ i => n - (intOf i).toNat)
  case atStart => exact ⟨0, Nat.zero_le _, rfl, by simp⟩
  case round =>
    obtain ⟨j, hj, rfl, rfl⟩ := hrel
    by_cases hlt : j < n
    · obtain ⟨b, off, rfl, hc⟩ := hr j _ (marks_get hlt)
      have hcmp : (FloatKind.f32.format.order (mk (k + j)) (floatOfInt .f32 (k + j)) != some .eq) = false := by
        have h1 : isN .f32 (mk (k + j)) = false := by
          have := mk_canon (k + j)
          exact (canon_some this).2
        show (FloatKind.f32.format.order (mk (k + j)) (mk (k + j)) != some .eq) = false
        rw [neq_self, h1]
      go_wp2
      go_round
      case rel => exact ⟨j + 1, by omega, by go_num, by go_num⟩
      case measure => simp [intOf]; omega
    · obtain rfl : j = n := by omega
      go_wp2
      go_ret
      exact ⟨rfl, rfl⟩
end Go.Proofs.Ytabhjnpmmjmaiab
