/- Sums of products of two lists of floats, the program's and the model's, and their law. Conditions: none beyond those of each theorem. -/
import Derived.Test.YtdcpkndkehdhiabSumLaws
namespace Go.Proofs.Ytdcpkndkehdhiab
open Go Ieee Go.RowKit

def fdot (ps : List (Nat × Nat)) : Option Nat := ps.foldl (fun s p => fop .add .f32 s (fop .mul .f32 (canon .f32 p.1) (canon .f32 p.2))) (some 0)

def dotOk (n m : Nat) : Bool := decide (n ≤ 256 ∧ n = m)
def fdotAll (xs ys : List Nat) : Option Nat := if xs.length ≤ 256 ∧ xs.length = ys.length then fdot (xs.zip ys) else some 0

theorem fdot_take {xs ys : List Nat} {k : Nat} (h : k < xs.length) (h' : k < ys.length) : fdot ((xs.zip ys).take (k + 1)) = fop .add .f32 (fdot ((xs.zip ys).take k)) (fop .mul .f32 (canon .f32 xs[k]) (canon .f32 ys[k])) := by
  have hz : k < (xs.zip ys).length := by rw [List.length_zip]; omega
  unfold fdot; rw [List.take_succ_eq_append_getElem hz, List.foldl_append, List.getElem_zip]; rfl

theorem fdot_all {xs ys : List Nat} {k : Nat} (h : xs.length ≤ k) : fdot ((xs.zip ys).take k) = fdot (xs.zip ys) := by
  rw [List.take_of_length_le (by rw [List.length_zip]; omega)]

theorem mulAny (x y : Nat) (w : World) : Calls Try.prog 29 #[.float .f32 x, .float .f32 y] w (FRet w (fun r => .float .f32 r) (fop .mul .f32 (canon .f32 x) (canon .f32 y))) := by
  go_enter Try.func29, Try.ntmps29
  go_wp2_with (refine wpList_arith rfl _ _ _ _ _ rfl rfl .f32 _ _ rfl rfl ?_; intro v q hc hv; have HC := Lib.hid hc; clear hc)
  go_ret
  exact ⟨v, _, rfl, rfl, HC.out, hv⟩

set_option maxHeartbeats 1000000 in
theorem specDot (a b : Option Addr) (ca cb : Nat) (xs ys : List Nat) (w : World) (ha : RowV w a (fvals xs)) (hb : RowV w b (fvals ys)) (hl : xs.length = ys.length) (hn : xs.length ≤ maxLen) :
    Calls Try.prog 27 #[.slice a xs.length ca, .slice b ys.length cb] w (FRet w (fun r => .float .f32 r) (fdot (xs.zip ys))) := by
  unfold maxLen at hn
  rw [← hl]
  generalize hlen : xs.length = n at hn hl ⊢
  have HL := Lib.hid hlen
  have HM := Lib.hid hl
  clear hlen hl
  go_enter Try.func27, Try.ntmps27
  go_wp2
  go_loopw [5, 6] (fun s i wr => ∃ k r : Nat, k ≤ n ∧ i = .int .i64 k ∧ s = .float .f32 r ∧ canon .f32 r = fdot ((xs.zip ys).take k) ∧ r < 2 ^ 32 ∧ ∃ m, wr = w.drewN m) (fun _ i _ => n - (intOf i).toNat)
  case atStart => exact ⟨0, 0, Nat.zero_le _, rfl, rfl, rfl, by decide, 0, rfl⟩
  case round =>
    obtain ⟨k, r, hk, rfl, rfl, hr, hrl, m, rfl⟩ := hrel
    have HR := Lib.hid hr
    clear hr
    by_cases hlt : k < n
    · have k1 : k < xs.length := by rw [HL.out]; exact hlt
      have k2 : k < ys.length := by rw [← HM.out]; exact hlt
      obtain ⟨ba, oa, rfl, c1⟩ := ha k _ (fvals_get k1)
      obtain ⟨bb, ob, rfl, c2⟩ := hb k _ (fvals_get k2)
      have hs := fdot_take k1 k2
      rw [← HR.out] at hs
      have HS := Lib.hid hs
      clear hs ha hb
      generalize xs[k] = x at *
      generalize ys[k] = y at *
      have hki : ((k : Nat) : Int) < (n : Int) := by omega
      go_wp2_with (refine wp_region_rel (Sp := fun _ _ _ => False) (by kernel_rfl) (by kernel_rfl) ?_; (repeat (first
        | (refine wpRel_arith rfl rfl .f32 _ _ rfl rfl ?_; intro v hcv hv K hK; replace hv : v < 2 ^ 32 := hv; have HV := Lib.hid hcv; clear hcv; go_big_quiet_op; go_big_quiet_on)
        | (refine wpRel_plain rfl rfl ?_; intro K hK; go_big_quiet_op; go_big_quiet_on))); (with_reducible refine wpRel_nil ?_); rintro w' ⟨nq, rfl⟩)
      rename_i v1 hv1 HV1
      go_roundw
      case rel => exact ⟨k + 1, v, by omega, by go_num, rfl, by rw [HV.out, HV1.out, HS.out], hv, _, rfl⟩
      case measure => simp [intOf]; omega
    · obtain rfl : k = n := by omega
      go_wp2
      go_ret
      refine ⟨_, _, rfl, rfl, ?_, hrl⟩
      rw [HR.out, fdot_all (by rw [HL.out]; exact Nat.le_refl _)]

set_option maxHeartbeats 1000000 in
theorem implDot (a b : Option Addr) (ca cb : Nat) (xs ys : List Nat) (w : World) (ha : RowV w a (fvals xs)) (hb : RowV w b (fvals ys)) (hn : xs.length ≤ maxLen) (hm : ys.length ≤ maxLen) :
    Calls Try.prog 28 #[.slice a xs.length ca, .slice b ys.length cb, .func (.func 29) #[] #[]] w (FRet w (fun r => .tuple #[.float .f32 r, .bool (dotOk xs.length ys.length)]) (fdotAll xs ys)) := by
  unfold maxLen at hn hm
  by_cases hl : xs.length = ys.length
  · have hd : ((xs.length : Int) != (ys.length : Int)) = false := by simp; omega
    have HO := Lib.hid (show dotOk xs.length ys.length = decide (xs.length ≤ 256) by unfold dotOk; rw [decide_eq_decide]; omega)
    have HQ := Lib.hid hl
    rw [← hl] at hd ⊢
    clear hl
    generalize hlen : xs.length = n at hn hd ⊢
    have HL := Lib.hid hlen
    clear hlen
    by_cases hbig : (256 : Int) < n
    · have hdb : decide ((256 : Int) < (n : Int)) = true := decide_eq_true hbig
      go_enter Try.func28, Try.ntmps28
      go_wp2
      go_ret2
      refine ⟨0, 0, ?_, rfl, by unfold fdotAll; rw [if_neg (by rw [HL.out]; omega)]; rfl, by decide⟩
      have := HO.out
      rw [← HQ.out, HL.out, decide_eq_false (by omega)] at this
      rw [this]; rfl
    · have hdb : decide ((256 : Int) < (n : Int)) = false := decide_eq_false hbig
      go_enter Try.func28, Try.ntmps28
      go_wp2
      go_loopw [8, 9, 10, 24] (fun s _ _ i wr => ∃ k r : Nat, k ≤ n ∧ i = .int .i64 k ∧ s = .float .f32 r ∧ canon .f32 r = fdot ((xs.zip ys).take k) ∧ r < 2 ^ 32 ∧ ∃ m, wr = w.drewN m) (fun _ _ _ i _ => n - (intOf i).toNat)
      case atStart => exact ⟨0, 0, Nat.zero_le _, rfl, rfl, rfl, by decide, 0, rfl⟩
      case round =>
        obtain ⟨k, r, hk, rfl, rfl, hr, hrl, m, rfl⟩ := hrel
        have HR := Lib.hid hr
        clear hr
        by_cases hlt : k < n
        · have k1 : k < xs.length := by rw [HL.out]; exact hlt
          have k2 : k < ys.length := by rw [← HQ.out]; exact k1
          obtain ⟨ba, oa, rfl, c1⟩ := ha k _ (fvals_get k1)
          obtain ⟨bb, ob, rfl, c2⟩ := hb k _ (fvals_get k2)
          have hs := fdot_take k1 k2
          rw [← HR.out] at hs
          have HS := Lib.hid hs
          clear hs ha hb
          generalize xs[k] = x at *
          generalize ys[k] = y at *
          go_wp2_with (first | (go_at_call 29; refine (mulAny _ _ _).mono ?_; rintro e w' ⟨z, q1, rfl, rfl, hz, hzl⟩; have HZ := Lib.hid hz; clear hz) | (refine wpList_arith rfl _ _ _ _ _ rfl rfl .f32 _ _ rfl rfl ?_; intro v q hc hv; replace hv : v < 2 ^ 32 := hv; have HC := Lib.hid hc; clear hc))
          go_roundw
          case rel => exact ⟨k + 1, v, by omega, by go_num, rfl, by rw [HC.out, HZ.out, HS.out], hv, _, rfl⟩
          case measure => simp [intOf]; omega
        · obtain rfl : k = n := by omega
          go_wp2
          go_ret2
          refine ⟨r, _, ?_, rfl, ?_, hrl⟩
          · have := HO.out
            rw [← HQ.out, HL.out, decide_eq_true (by omega)] at this
            rw [this]; rfl
          · unfold fdotAll
            rw [if_pos ⟨by rw [HL.out]; omega, HQ.out⟩, HR.out, fdot_all (by rw [HL.out]; exact Nat.le_refl _)]
  · have hd : ((xs.length : Int) != (ys.length : Int)) = true := by simp; omega
    have HO := Lib.hid (show dotOk xs.length ys.length = false by unfold dotOk; rw [decide_eq_false]; omega)
    have HQ := Lib.hid hl
    clear hl
    go_enter Try.func28, Try.ntmps28
    go_wp2
    go_ret2
    exact ⟨0, 0, by rw [HO.out]; rfl, rfl, by unfold fdotAll; rw [if_neg (fun h => HQ.out h.2)]; rfl, by decide⟩

theorem implDotNumbers (a b : Option Addr) (ca cb : Nat) (xs ys : List Nat) (w : World) (ha : RowV w a (fvals xs)) (hb : RowV w b (fvals ys)) (hn : xs.length ≤ maxLen) (hm : ys.length ≤ maxLen) :
    Calls Try.prog 12 #[.slice a xs.length ca, .slice b ys.length cb] w (FRet w (fun r => .tuple #[.float .f32 r, .bool (dotOk xs.length ys.length)]) (fdotAll xs ys)) := by
  go_enter Try.func12, Try.ntmps12
  go_wp2_with ((go_at_call 28; refine (implDot _ _ _ _ _ _ _ ha hb hn hm).mono ?_; rintro e w' ⟨r, n, rfl, rfl, hr, hrl⟩; have HR := Lib.hid hr; clear hr))
  go_ret2
  exact ⟨r, _, rfl, rfl, HR.out, hrl⟩

theorem specDotNumbers (a b : Option Addr) (ca cb : Nat) (xs ys : List Nat) (w : World) (ha : RowV w a (fvals xs)) (hb : RowV w b (fvals ys)) (hn : xs.length ≤ maxLen) (hm : ys.length ≤ maxLen) :
    Calls Try.prog 11 #[.slice a xs.length ca, .slice b ys.length cb] w (FRet w (fun r => .tuple #[.float .f32 r, .bool (dotOk xs.length ys.length)]) (fdotAll xs ys)) := by
  have hnn := hn
  have hmm := hm
  unfold maxLen at hnn hmm
  by_cases hsm : xs.length ≤ 256
  · have hd := few_yes hsm
    by_cases hl : xs.length = ys.length
    · have hq : ((xs.length : Int) != (ys.length : Int)) = false := by simp; omega
      have ho : dotOk xs.length ys.length = true := decide_eq_true ⟨hsm, hl⟩
      have hr : fdotAll xs ys = fdot (xs.zip ys) := if_pos ⟨hsm, hl⟩
      rw [ho, hr]
      have HQ := Lib.hid hl
      clear ho hr hsm hl
      go_enter Try.func11, Try.ntmps11
      go_wp2_with (first | (go_at_call 24; refine (specFew _ _ _ _ hn).mono ?_; rintro e w' ⟨rfl, rfl⟩) | (go_at_call 27; refine (specDot _ _ _ _ _ _ _ ha hb HQ.out hn).mono ?_; rintro e w' ⟨r, n, rfl, rfl, hr, hrl⟩; have HR := Lib.hid hr; clear hr))
      go_ret2
      exact ⟨r, _, rfl, rfl, HR.out, hrl⟩
    · have hq : ((xs.length : Int) != (ys.length : Int)) = true := by simp; omega
      have ho : dotOk xs.length ys.length = false := decide_eq_false (fun h => hl h.2)
      have hr : fdotAll xs ys = some 0 := if_neg (fun h => hl h.2)
      rw [ho, hr]
      clear ho hr hsm hl
      go_enter Try.func11, Try.ntmps11
      go_wp2_with (first | (go_at_call 24; refine (specFew _ _ _ _ hn).mono ?_; rintro e w' ⟨rfl, rfl⟩))
      go_ret2
      exact ⟨0, 0, rfl, rfl, rfl, by decide⟩
  · have hd := few_no hsm
    have ho : dotOk xs.length ys.length = false := decide_eq_false (fun h => hsm h.1)
    have hr : fdotAll xs ys = some 0 := if_neg (fun h => hsm h.1)
    rw [ho, hr]
    clear ho hr hsm
    go_enter Try.func11, Try.ntmps11
    go_wp2_with (first | (go_at_call 24; refine (specFew _ _ _ _ hn).mono ?_; rintro e w' ⟨rfl, rfl⟩))
    go_ret2
    exact ⟨0, 0, rfl, rfl, rfl, by decide⟩

/-- what is known of a copy: where it lies, and that all before it stays -/
structure Copied (w w' : World) (xs : List Nat) : Prop where
  row : RowV w' (some ⟨w.heap.size, 0, none⟩) (fvals xs)
  own : w'.ownsRow w.heap.size 23 1 (.slice (some ⟨w.heap.size, 0, none⟩) xs.length xs.length) xs.length (fvals xs)
  below : Below w.heap.size w w'

theorem copyF (a : Option Addr) (cap : Nat) (xs : List Nat) (w : World) (hr : RowV w a (fvals xs)) (hn : xs.length ≤ 1048576) :
    Calls Try.prog 7 #[.slice a xs.length cap] w fun e w' => e = .returned (.slice (some ⟨w.heap.size, 0, none⟩) xs.length xs.length) ∧ Copied w w' xs :=
  (toF32s a cap xs w hr hn).mono fun _ _ ⟨he, ho, hb⟩ => ⟨he, RowV.of_owned ho, ho, hb⟩

theorem Below.drawnL {w w' : World} {n : Nat} (h : Below w.heap.size (w.drewN n) w') : Below w.heap.size w w' := ⟨h.os, h.tape, h.output, h.size, h.block⟩

set_option maxHeartbeats 2000000 in
theorem fnExactDotNumbers_walk (a : Option Addr) (ca : Nat) (xs : List Nat) (b : Option Addr) (cb : Nat) (ys : List Nat) (w : World) (hr : RowV w a (fvals xs)) (hx : ∀ x ∈ xs, x < 2 ^ 32) (hm : xs.length ≤ maxLen) (hs : RowV w b (fvals ys)) (hy : ∀ y ∈ ys, y < 2 ^ 32) (hm2 : ys.length ≤ maxLen) :
    Calls Try.prog 4 #[.slice a xs.length ca, .slice b ys.length cb] w fun e w' => e = .returned (.bool true) ∧ Below w.heap.size w w' := by
  have hmm := hm
  have hmm2 := hm2
  unfold maxLen at hmm hmm2
  by_cases hbig : (1048576 : Int) < xs.length
  · go_enter Try.func4, Try.ntmps4
    go_wp2
    go_ret
    exact ⟨rfl, Below.refl _ _⟩
  · by_cases hbig2 : (1048576 : Int) < ys.length
    · go_enter Try.func4, Try.ntmps4
      go_wp2
      go_ret
      exact ⟨rfl, Below.refl _ _⟩
    · have hn : xs.length ≤ 1048576 := by omega
      have hn2 : ys.length ≤ 1048576 := by omega
      generalize hok : dotOk xs.length ys.length = ok at *
      have HOK := Lib.hid hok
      clear hok
      go_enter Try.func4, Try.ntmps4
      go_wp2_with fail
      refine (copyF _ _ _ _ hr hn).mono ?_
      rintro e w1 ⟨rfl, C1⟩
      have B1 := Lib.hid C1.below
      go_wp2_with fail
      refine (copyF _ _ _ _ (hs.later B1.out) hn2).mono ?_
      rintro e w2 ⟨rfl, C2⟩
      have B2 := Lib.hid (Below.lower B1.out C2.below B1.out.size)
      go_wp2_with fail
      refine (specDotNumbers _ _ _ _ _ _ _ (C1.row.later C2.below) C2.row hm hm2).mono ?_
      rintro e w' ⟨r1, n1, rfl, rfl, hr1, hl1⟩
      have HR1 := Lib.hid hr1
      rw [HOK.out]
      clear hr1
      go_wp2_with fail
      refine (copyF _ _ _ _ ((hr.later B2.out).drawn n1) hn).mono ?_
      rintro e w3 ⟨rfl, C3⟩
      have c3 : Below w2.heap.size w2 w3 := Below.drawnL C3.below
      have B3 := Lib.hid (Below.lower B2.out c3 B2.out.size)
      have R3 := Lib.hid C3.row
      clear c3
      simp only [World.heap_drewN] at R3 ⊢
      go_wp2_with fail
      refine (copyF _ _ _ _ (hs.later B3.out) hn2).mono ?_
      rintro e w4 ⟨rfl, C4⟩
      have B4 := Lib.hid (Below.lower B3.out C4.below B3.out.size)
      have R3' := Lib.hid (RowV.later R3.out C4.below)
      go_wp2_with fail
      refine (implDotNumbers _ _ _ _ _ _ _ R3'.out C4.row hm hm2).mono ?_
      rintro e w' ⟨r2, n2, rfl, rfl, hr2, hl2⟩
      have HR2 := Lib.hid hr2
      rw [HOK.out]
      clear hr2
      replace hl1 : r1 < 2 ^ FloatKind.f32.format.width := hl1
      replace hl2 : r2 < 2 ^ FloatKind.f32.format.width := hl2
      go_wp2_with (refine wpList_conv rfl _ _ _ rfl .f32 .f64 (by decide) _ rfl Try.underlying23 Try.underlying28 (by assumption) (fits_widen _) ?_; intro v n hc hv; have HC := Lib.hid hc; clear hc)
      refine (sameFloat_any _ _ _ (conv_same (by assumption) (by assumption) HR2 HR1)).mono ?_
      rintro e w' ⟨rfl, n5, rfl⟩
      go_wp2_with fail
      refine (copyF _ _ _ _ ((hr.later B4.out).drawn _) hn).mono ?_
      rintro e w5 ⟨rfl, C5⟩
      have c5 : Below w4.heap.size w4 w5 := Below.drawnL C5.below
      have B5 := Lib.hid (Below.lower B4.out c5 B4.out.size)
      have R5 := Lib.hid C5.row
      have R3'' := Lib.hid (RowV.later R3'.out c5)
      have R4 := Lib.hid (RowV.later C4.row c5)
      clear c5
      simp only [World.heap_drewN] at R5 ⊢
      go_wp2_with fail
      refine (eqF32s _ _ _ _ _ _ _ R3''.out R5.out (SameF.refl hx) hm).mono ?_
      rintro e w' ⟨rfl, n6, rfl⟩
      go_wp2_with fail
      refine (copyF _ _ _ _ ((hs.later B5.out).drawn _) hn2).mono ?_
      rintro e w6 ⟨rfl, C6⟩
      have c6 : Below w5.heap.size w5 w6 := Below.drawnL C6.below
      have B6 := Lib.hid (Below.lower B5.out c6 B5.out.size)
      have R6 := Lib.hid C6.row
      have R4' := Lib.hid (RowV.later R4.out c6)
      clear c6
      simp only [World.heap_drewN] at R6 ⊢
      go_wp2_with fail
      refine (eqF32s _ _ _ _ _ _ _ R4'.out R6.out (SameF.refl hy) hm2).mono ?_
      rintro e w' ⟨rfl, n7, rfl⟩
      go_wp2
      go_ret
      exact ⟨rfl, below_drewN B6.out _⟩
end Go.Proofs.Ytdcpkndkehdhiab
