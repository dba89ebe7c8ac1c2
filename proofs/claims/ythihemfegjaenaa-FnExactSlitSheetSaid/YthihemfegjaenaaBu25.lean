/- Several texts in one: facts on floats, lists, memory and the functions that the theorems beside this text use. Conditions: none beyond those of each theorem. -/
import Derived.Test.YthihemfegjaenaaBu14
import Derived.Test.YthihemfegjaenaaFarA
import Derived.Test.YthihemfegjaenaaBu7
import Derived.Test.YthihemfegjaenaaRect3
import Derived.Test.YthihemfegjaenaaSht
import Derived.Test.YthihemfegjaenaaStilled
import Derived.Test.YthihemfegjaenaaOwnS

set_option linter.unusedVariables false

section

namespace Go.Proofs.Ythihemfegjaenaa
open Go Ieee Go.RowKit
set_option linter.unusedVariables false
set_option linter.unusedSimpArgs false

def hasI (zs : List Int) (y : Int) : Bool := zs.any fun z => decide (z = y)
theorem hasI_yes {zs : List Int} {y : Int} (k : Nat) (hk : k < zs.length) (h : zs[k] = y) : hasI zs y = true := by
  unfold hasI; rw [List.any_eq_true]; exact ⟨zs[k], List.getElem_mem hk, decide_eq_true h⟩
theorem hasI_no {zs : List Int} {y : Int} (h : ∀ k (hk : k < zs.length), zs[k] ≠ y) : hasI zs y = false := by
  unfold hasI; rw [List.any_eq_false]
  intro z hz hd
  obtain ⟨k, hk, e⟩ := List.mem_iff_getElem.1 hz
  exact h k hk (by rw [e]; exact of_decide_eq_true hd)

def okI (hi : Int) (zs : List Int) (k : Nat) : Bool := decide (0 ≤ zs.getD k 0 ∧ zs.getD k 0 ≤ hi - 1) && (decide (k = 0) || decide (zs.getD (k - 1) 0 < zs.getD k 0))
def riseB (hi : Int) (zs : List Int) : Bool := (List.range zs.length).all (okI hi zs)
theorem rise_all {hi : Int} {zs : List Int} (h : ∀ k, k < zs.length → okI hi zs k = true) : riseB hi zs = true := by
  unfold riseB; rw [List.all_eq_true]; intro k hk; exact h k (List.mem_range.1 hk)
theorem rise_not {hi : Int} {zs : List Int} (k : Nat) (hk : k < zs.length) (h : okI hi zs k = false) : riseB hi zs = false := by
  unfold riseB; rw [List.all_eq_false]; exact ⟨k, List.mem_range.2 hk, by rw [h]; decide⟩
theorem getD_int {zs : List Int} {k : Nat} (h : k < zs.length) : zs.getD k 0 = zs[k] := by rw [List.getD_eq_getElem?_getD, List.getElem?_eq_getElem h]; rfl
theorem row_int {w : World} {a : Option Addr} {zs : List Int} {k : Nat} (h : RowV w a (ivals zs)) (hk : k < zs.length) : ∃ b o, a = some ⟨b, o, none⟩ ∧ w.cell? ⟨b, o + k, none⟩ = some (.int .i64 (zs.getD k 0)) := by
  obtain ⟨b, o, e, hc⟩ := h k _ (ivals_get hk)
  exact ⟨b, o, e, by rw [getD_int hk]; exact hc⟩
def slitsB (hi : Int) (zs : List Int) : Bool := decide (zs.length ≤ 8) && riseB hi zs

set_option maxHeartbeats 2000000 in
theorem implIndexL (a : Option Addr) (ca : Nat) (zs : List Int) (y : Int) (w : World) (ha : RowV w a (ivals zs)) (hn : zs.length ≤ maxLen) : Calls Try.prog 124 #[.slice a zs.length ca, .int .i64 y] w fun e w' => ∃ r : Int, e = .returned (.int .i64 r) ∧ decide (0 ≤ r) = hasI zs y ∧ w = w' := by
  unfold maxLen at hn
  have HY : Hid (∀ k, (hk : k < zs.length) → zs.getD k 0 = y → hasI zs y = true) := Lib.hid (fun k hk h => hasI_yes k hk (by rw [← getD_int hk]; exact h))
  have HN : Hid ((∀ k, k < zs.length → zs.getD k 0 ≠ y) → hasI zs y = false) := Lib.hid (fun h => hasI_no (fun k hk => by rw [← getD_int hk]; exact h k hk))
  generalize hasI zs y = rb at *
  generalize hlen : zs.length = n at hn ⊢
  have HL := Lib.hid hlen; clear hlen
  have n0 : (0 : Int) ≤ (n : Int) := Int.natCast_nonneg n
  go_enter Try.func124, Try.ntmps124
  go_wp2
  go_loopw [8] (fun i wr => ∃ k : Nat, k ≤ n ∧ i = .int .i64 k ∧ (∀ j, j < k → zs.getD j 0 ≠ y) ∧ w = wr) (fun i _ => n - (intOf i).toNat)
  case atStart => exact ⟨0, Nat.zero_le _, rfl, fun j h => by omega, rfl⟩
  case round =>
    obtain ⟨k, hk, rfl, hall, rfl⟩ := hrel
    have HA := Lib.hid hall; clear hall
    by_cases hlt : k < n
    · have k1 : k < zs.length := by rw [HL.out]; exact hlt
      obtain ⟨b1, o1, rfl, c0⟩ := row_int ha k1
      have hki : ((k : Nat) : Int) < (n : Int) := by omega
      have k0 : (0 : Int) ≤ ((k : Nat) : Int) := Int.natCast_nonneg k
      have HNext : Hid (zs.getD k 0 ≠ y → ∀ j, j < k + 1 → zs.getD j 0 ≠ y) := Lib.hid (fun h j hjk => by
        by_cases e : j = k
        · subst e; exact h
        · exact HA.out j (by omega))
      have HStop : Hid (zs.getD k 0 = y → rb = true) := Lib.hid (HY.out k k1)
      clear ha HY HA k1
      generalize zs.getD k 0 = z at *
      by_cases hc : z = y
      · obtain rfl := HStop.out hc
        subst hc
        go_wp2
        go_ret
        exact ⟨_, rfl, by simp, rfl⟩
      · have HN2 := Lib.hid (HNext.out hc)
        have d1 : (z == y) = false := by simpa using hc
        have d2 : (y == z) = false := by simpa using fun h : y = z => hc h.symm
        clear HNext hc
        go_wp2
        go_roundw
        case rel => exact ⟨k + 1, by omega, by go_num, HN2.out, (by trivial)⟩
        case measure => simp [intOf]; omega
    · obtain rfl : k = n := by omega
      obtain rfl := HN.out (fun j hj => HA.out j (by rw [← HL.out]; exact hj))
      go_wp2
      go_ret
      exact ⟨_, rfl, by decide, rfl⟩

set_option maxHeartbeats 2000000 in
theorem specHas (a : Option Addr) (ca : Nat) (zs : List Int) (y : Int) (w : World) (ha : RowV w a (ivals zs)) (hn : zs.length ≤ maxLen) : Calls Try.prog 81 #[.slice a zs.length ca, .int .i64 y] w fun e w' => e = .returned (.bool (hasI zs y)) ∧ w = w' := by
  unfold maxLen at hn
  have HY : Hid (∀ k, (hk : k < zs.length) → zs.getD k 0 = y → hasI zs y = true) := Lib.hid (fun k hk h => hasI_yes k hk (by rw [← getD_int hk]; exact h))
  have HN : Hid ((∀ k, k < zs.length → zs.getD k 0 ≠ y) → hasI zs y = false) := Lib.hid (fun h => hasI_no (fun k hk => by rw [← getD_int hk]; exact h k hk))
  generalize hasI zs y = rb at *
  generalize hlen : zs.length = n at hn ⊢
  have HL := Lib.hid hlen; clear hlen
  have n0 : (0 : Int) ≤ (n : Int) := Int.natCast_nonneg n
  go_enter Try.func81, Try.ntmps81
  go_wp2
  go_loopw [5] (fun i wr => ∃ k : Nat, k ≤ n ∧ i = .int .i64 k ∧ (∀ j, j < k → zs.getD j 0 ≠ y) ∧ w = wr) (fun i _ => n - (intOf i).toNat)
  case atStart => exact ⟨0, Nat.zero_le _, rfl, fun j h => by omega, rfl⟩
  case round =>
    obtain ⟨k, hk, rfl, hall, rfl⟩ := hrel
    have HA := Lib.hid hall; clear hall
    by_cases hlt : k < n
    · have k1 : k < zs.length := by rw [HL.out]; exact hlt
      obtain ⟨b1, o1, rfl, c0⟩ := row_int ha k1
      have hki : ((k : Nat) : Int) < (n : Int) := by omega
      have k0 : (0 : Int) ≤ ((k : Nat) : Int) := Int.natCast_nonneg k
      have HNext : Hid (zs.getD k 0 ≠ y → ∀ j, j < k + 1 → zs.getD j 0 ≠ y) := Lib.hid (fun h j hjk => by
        by_cases e : j = k
        · subst e; exact h
        · exact HA.out j (by omega))
      have HStop : Hid (zs.getD k 0 = y → rb = true) := Lib.hid (HY.out k k1)
      clear ha HY HA k1
      generalize zs.getD k 0 = z at *
      by_cases hc : z = y
      · obtain rfl := HStop.out hc
        subst hc
        go_wp2
        go_ret
        exact ⟨rfl, rfl⟩
      · have HN2 := Lib.hid (HNext.out hc)
        have d1 : (z == y) = false := by simpa using hc
        have d2 : (y == z) = false := by simpa using fun h : y = z => hc h.symm
        clear HNext hc
        go_wp2
        go_roundw
        case rel => exact ⟨k + 1, by omega, by go_num, HN2.out, (by trivial)⟩
        case measure => simp [intOf]; omega
    · obtain rfl : k = n := by omega
      obtain rfl := HN.out (fun j hj => HA.out j (by rw [← HL.out]; exact hj))
      go_wp2
      go_ret
      exact ⟨rfl, rfl⟩

theorem implContains (a : Option Addr) (ca : Nat) (zs : List Int) (y : Int) (w : World) (ha : RowV w a (ivals zs)) (hn : zs.length ≤ maxLen) : Calls Try.prog 86 #[.slice a zs.length ca, .int .i64 y] w fun e w' => e = .returned (.bool (hasI zs y)) ∧ w = w' := by
  go_enter Try.func86, Try.ntmps86
  go_wp2_with fail
  refine (implIndexL _ _ _ _ _ ha hn).mono ?_
  rintro e w9 ⟨r, rfl, hr, rfl⟩
  have HR := Lib.hid hr; clear hr
  go_wp2
  go_ret
  exact ⟨by rw [← HR.out]; rfl, rfl⟩

theorem implHasCol (wd hi x : Int) (wb : Bool) (w : World) : Calls Try.prog 82 #[.agg #[.int .i64 wd, .int .i64 hi, .bool wb], .int .i64 x] w fun e w' => e = .returned (.bool (decide (0 ≤ x ∧ x < wd))) ∧ Below w.heap.size w w' := by
  have HB : Hid (Below w.heap.size w (w.alloc (.cells #[.int .i64 wd, .int .i64 hi, .bool wb] 78))) := Lib.hid (below_new _ _)
  by_cases h1 : 0 ≤ x
  · skip
    have d1 : decide (0 ≤ x) = true := decide_eq_true h1
    rw [show decide (0 ≤ x ∧ x < wd) = decide (x < wd) by rw [decide_eq_decide]; omega]
    go_enter Try.func82, Try.ntmps82
    go_wp2
    go_ret
    exact ⟨rfl, HB.out⟩
  · skip
    have d1 : decide (0 ≤ x) = false := decide_eq_false h1
    rw [show decide (0 ≤ x ∧ x < wd) = false by rw [decide_eq_false]; omega]
    go_enter Try.func82, Try.ntmps82
    go_wp2
    go_ret
    exact ⟨rfl, HB.out⟩

theorem implHasRowS (wd hi y : Int) (wb : Bool) (w : World) : Calls Try.prog 122 #[.agg #[.int .i64 wd, .int .i64 hi, .bool wb], .int .i64 y] w fun e w' => e = .returned (.bool (decide (0 ≤ y ∧ y ≤ hi - 1))) ∧ Below w.heap.size w w' := by
  have HB : Hid (Below w.heap.size w (w.alloc (.cells #[.int .i64 wd, .int .i64 hi, .bool wb] 78))) := Lib.hid (below_new _ _)
  by_cases h1 : 0 ≤ y
  · skip
    have d1 : decide (0 ≤ y) = true := decide_eq_true h1
    rw [show decide (0 ≤ y ∧ y ≤ hi - 1) = decide (y < hi) by rw [decide_eq_decide]; omega]
    go_enter Try.func122, Try.ntmps122
    go_wp2
    go_ret
    exact ⟨rfl, HB.out⟩
  · skip
    have d1 : decide (0 ≤ y) = false := decide_eq_false h1
    rw [show decide (0 ≤ y ∧ y ≤ hi - 1) = false by rw [decide_eq_false]; omega]
    go_enter Try.func122, Try.ntmps122
    go_wp2
    go_ret
    exact ⟨rfl, HB.out⟩

set_option maxHeartbeats 4000000 in
set_option maxRecDepth 100000 in
theorem implAreSlits (wd hi : Int) (wb : Bool) (a : Option Addr) (ca : Nat) (zs : List Int) (w : World) (ha : RowV w a (ivals zs)) (hn : zs.length ≤ maxLen) : Calls Try.prog 83 #[.agg #[.int .i64 wd, .int .i64 hi, .bool wb], .slice a zs.length ca] w fun e w' => e = .returned (.bool (slitsB hi zs)) ∧ Below w.heap.size w w' := by
  unfold maxLen at hn
  by_cases h8 : zs.length ≤ 8
  rotate_left
  · skip
    have HS : Hid (slitsB hi zs = false) := Lib.hid (by unfold slitsB; rw [decide_eq_false h8]; rfl)
    have h9 : (8 : Int) < (zs.length : Int) := by omega
    have X := Blk.new w #[.int .i64 wd, .int .i64 hi, .bool wb] 78
    have HB : Hid (Below w.heap.size w (w.alloc (.cells #[.int .i64 wd, .int .i64 hi, .bool wb] 78))) := Lib.hid ((Below.refl w.heap.size w).alloc (by simp <;> omega) _)
    go_enter Try.func83, Try.ntmps83
    go_wp2
    generalize (w.alloc (.cells #[.int .i64 wd, .int .i64 hi, .bool wb] 78)) = u1 at *
    go_ret
    exact ⟨by rw [HS.out]; rfl, HB.out⟩
  rw [show slitsB hi zs = riseB hi zs by unfold slitsB; rw [decide_eq_true h8]; rfl]
  have HT : Hid ((∀ k, k < zs.length → okI hi zs k = true) → riseB hi zs = true) := Lib.hid rise_all
  have HF : Hid (∀ k, k < zs.length → okI hi zs k = false → riseB hi zs = false) := Lib.hid rise_not
  have HOK : Hid (∀ k, okI hi zs k = (decide (0 ≤ zs.getD k 0 ∧ zs.getD k 0 ≤ hi - 1) && (decide (k = 0) || decide (zs.getD (k - 1) 0 < zs.getD k 0)))) := Lib.hid (fun _ => rfl)
  generalize riseB hi zs = rb at *
  generalize okI hi zs = OK at *
  generalize hlen : zs.length = n at hn h8 ⊢
  have HL := Lib.hid hlen; clear hlen
  have n0 : (0 : Int) ≤ (n : Int) := Int.natCast_nonneg n
  have n8 : (n : Int) ≤ 8 := by omega
  have X := Blk.new w #[.int .i64 wd, .int .i64 hi, .bool wb] 78
  have HB : Hid (Below w.heap.size w (w.alloc (.cells #[.int .i64 wd, .int .i64 hi, .bool wb] 78))) := Lib.hid ((Below.refl w.heap.size w).alloc (by simp <;> omega) _)
  go_enter Try.func83, Try.ntmps83
  go_wp2
  generalize (w.alloc (.cells #[.int .i64 wd, .int .i64 hi, .bool wb] 78)) = u1 at *
  go_loopw [12] (fun i wr => ∃ k : Nat, k ≤ n ∧ i = .int .i64 k ∧ (∀ j, j < k → OK j = true) ∧ Blk wr w.heap.size #[.int .i64 wd, .int .i64 hi, .bool wb] 78 ∧ Below w.heap.size w wr) (fun i _ => n - (intOf i).toNat)
  case atStart => exact ⟨0, Nat.zero_le _, rfl, fun j h => by omega, X, HB.out⟩
  case round =>
    obtain ⟨k, hk, rfl, hall, X, hb⟩ := hrel
    replace HB := Lib.hid hb; clear hb
    have HA := Lib.hid hall; clear hall
    by_cases hlt : k < n
    · skip
      have k1 : k < zs.length := by rw [HL.out]; exact hlt
      obtain ⟨b1, o1, e1, c0⟩ := row_int (ha.later HB.out) k1
      have hki : ((k : Nat) : Int) < (n : Int) := by omega
      have k0 : (0 : Int) ≤ ((k : Nat) : Int) := Int.natCast_nonneg k
      have HNext : Hid (OK k = true → ∀ j, j < k + 1 → OK j = true) := Lib.hid (fun h j hjk => by
        by_cases e : j = k
        · subst e; exact h
        · exact HA.out j (by omega))
      have HStop : Hid (OK k = false → rb = false) := Lib.hid (HF.out k k1)
      subst e1
      have HK := Lib.hid (HOK.out k)
      rcases hI : decide (0 ≤ zs.getD k 0 ∧ zs.getD k 0 ≤ hi - 1) with _ | _
      · skip
        have hok : OK k = false := by rw [HK.out, hI]; rfl
        have HI := Lib.hid hI; clear hI HK HOK HA HF ha
        generalize zs.getD k 0 = z at *
        obtain rfl := HStop.out hok
        obtain ⟨Xc, Xf⟩ := X.open
        go_wp2_with fail
        refine (implHasRowS _ _ _ _ _).mono ?_
        rintro e v2 ⟨rfl, q⟩
        rw [HI.out]
        replace X := X.later q; have HB2 := Lib.hid (HB.out.trans (q.mono HB.out.size))
        clear Xc Xf
        go_wp2
        go_ret
        exact ⟨rfl, HB2.out⟩
      by_cases kz : k = 0
      · skip
        have hok : OK k = true := by rw [HK.out, hI, decide_eq_true kz]; rfl
        have HI := Lib.hid hI; clear hI HK HOK HA HF ha
        generalize zs.getD k 0 = z at *
        have dk : decide ((k : Int) > 0) = false := decide_eq_false (by omega); have dk2 : decide (0 < k) = false := decide_eq_false (by omega); clear kz
        have HN2 := Lib.hid (HNext.out hok); clear HNext HStop hok
        obtain ⟨Xc, Xf⟩ := X.open
        go_wp2_with fail
        refine (implHasRowS _ _ _ _ _).mono ?_
        rintro e v2 ⟨rfl, q⟩
        rw [HI.out]
        replace X := X.later q; have HB2 := Lib.hid (HB.out.trans (q.mono HB.out.size))
        clear Xc Xf
        go_wp2
        go_roundw
        case rel => exact ⟨k + 1, by omega, by go_num, HN2.out, X, HB2.out⟩
        case measure => simp [intOf]; omega
      have dk : decide ((k : Int) > 0) = true := decide_eq_true (by omega)
      have dk2 : decide (0 < k) = true := decide_eq_true (by omega)
      obtain ⟨b2, o2, e2, c1⟩ := row_int (k := k - 1) (ha.later HB.out) (by omega)
      cases e2
      have ek : ((k : Int) - 1).toNat = k - 1 := by omega
      have k2 : (k : Int) - 1 < (n : Int) := by omega
      have k3 : 0 ≤ (k : Int) - 1 := by omega
      rcases hP : decide (zs.getD (k - 1) 0 < zs.getD k 0) with _ | _
      · skip
        have hok : OK k = false := by rw [HK.out, hI, hP, decide_eq_false kz]; rfl
        have hge : decide (zs.getD (k - 1) 0 ≥ zs.getD k 0) = true := by simp at hP ⊢; omega
        have HI := Lib.hid hI; clear hI hP HK HOK HA HF ha
        generalize zs.getD k 0 = z at *
        generalize zs.getD (k - 1) 0 = zp at *
        obtain rfl := HStop.out hok
        obtain ⟨Xc, Xf⟩ := X.open
        go_wp2_with fail
        refine (implHasRowS _ _ _ _ _).mono ?_
        rintro e v2 ⟨rfl, q⟩
        rw [HI.out]
        replace X := X.later q; have HB2 := Lib.hid (HB.out.trans (q.mono HB.out.size))
        replace c1 := cell_on c1 q
        clear Xc Xf
        go_wp2
        go_ret
        exact ⟨rfl, HB2.out⟩
      · skip
        have hok : OK k = true := by rw [HK.out, hI, hP, decide_eq_false kz]; rfl
        have hge : decide (zs.getD (k - 1) 0 ≥ zs.getD k 0) = false := by simp at hP ⊢; omega
        have HI := Lib.hid hI; clear hI hP HK HOK HA HF ha
        generalize zs.getD k 0 = z at *
        generalize zs.getD (k - 1) 0 = zp at *
        have HN2 := Lib.hid (HNext.out hok); clear HNext HStop hok
        obtain ⟨Xc, Xf⟩ := X.open
        go_wp2_with fail
        refine (implHasRowS _ _ _ _ _).mono ?_
        rintro e v2 ⟨rfl, q⟩
        rw [HI.out]
        replace X := X.later q; have HB2 := Lib.hid (HB.out.trans (q.mono HB.out.size))
        replace c1 := cell_on c1 q
        clear Xc Xf
        go_wp2
        go_roundw
        case rel => exact ⟨k + 1, by omega, by go_num, HN2.out, X, HB2.out⟩
        case measure => simp [intOf]; omega
    · skip
      obtain rfl : k = n := by omega
      obtain rfl := HT.out (fun j hj => HA.out j (by rw [← HL.out]; exact hj))
      go_wp2
      go_ret
      exact ⟨rfl, HB.out⟩

set_option maxHeartbeats 4000000 in
set_option maxRecDepth 100000 in
theorem specRises (hi : Int) (a : Option Addr) (ca : Nat) (zs : List Int) (w : World) (ha : RowV w a (ivals zs)) (hn : zs.length ≤ maxLen) (h8 : zs.length ≤ 8) : Calls Try.prog 80 #[.slice a zs.length ca, .int .i64 0, .int .i64 (hi - 1)] w fun e w' => e = .returned (.bool (riseB hi zs)) ∧ ∃ m, w' = w.drewN m := by
  unfold maxLen at hn
  have HT : Hid ((∀ k, k < zs.length → okI hi zs k = true) → riseB hi zs = true) := Lib.hid rise_all
  have HF : Hid (∀ k, k < zs.length → okI hi zs k = false → riseB hi zs = false) := Lib.hid rise_not
  have HOK : Hid (∀ k, okI hi zs k = (decide (0 ≤ zs.getD k 0 ∧ zs.getD k 0 ≤ hi - 1) && (decide (k = 0) || decide (zs.getD (k - 1) 0 < zs.getD k 0)))) := Lib.hid (fun _ => rfl)
  generalize riseB hi zs = rb at *
  generalize okI hi zs = OK at *
  generalize hlen : zs.length = n at hn h8 ⊢
  have HL := Lib.hid hlen; clear hlen
  have n0 : (0 : Int) ≤ (n : Int) := Int.natCast_nonneg n
  have n8 : (n : Int) ≤ 8 := by omega
  go_enter Try.func80, Try.ntmps80
  go_wp2
  go_loopw [7] (fun i wr => ∃ k : Nat, k ≤ n ∧ i = .int .i64 k ∧ (∀ j, j < k → OK j = true) ∧ ∃ m, wr = w.drewN m) (fun i _ => n - (intOf i).toNat)
  case atStart => exact ⟨0, Nat.zero_le _, rfl, fun j h => by omega, 0, rfl⟩
  case round =>
    obtain ⟨k, hk, rfl, hall, m, hw⟩ := hrel
    have HW := Lib.hid hw
    have HB : Hid (Below w.heap.size w wr) := Lib.hid (by rw [hw]; exact below_drewN (Below.refl _ _) _); clear hw
    have HA := Lib.hid hall; clear hall
    by_cases hlt : k < n
    · skip
      have k1 : k < zs.length := by rw [HL.out]; exact hlt
      obtain ⟨b1, o1, e1, c0⟩ := row_int (ha.later HB.out) k1
      have hki : ((k : Nat) : Int) < (n : Int) := by omega
      have k0 : (0 : Int) ≤ ((k : Nat) : Int) := Int.natCast_nonneg k
      have HNext : Hid (OK k = true → ∀ j, j < k + 1 → OK j = true) := Lib.hid (fun h j hjk => by
        by_cases e : j = k
        · subst e; exact h
        · exact HA.out j (by omega))
      have HStop : Hid (OK k = false → rb = false) := Lib.hid (HF.out k k1)
      subst e1
      have HK := Lib.hid (HOK.out k)
      rcases hI : decide (0 ≤ zs.getD k 0 ∧ zs.getD k 0 ≤ hi - 1) with _ | _
      · skip
        have hok : OK k = false := by rw [HK.out, hI]; rfl
        have HI := Lib.hid hI; clear hI HK HOK HA HF ha
        generalize zs.getD k 0 = z at *
        obtain rfl := HStop.out hok
        go_wp2
        go_quiet ((go_at_call 52; exact quietI _ _ _ _ _ _ HI.out))
        go_wp2
        go_ret
        exact ⟨rfl, _, by rw [HW.out]; exact World.drewN_drewN ..⟩
      by_cases kz : k = 0
      · skip
        have hok : OK k = true := by rw [HK.out, hI, decide_eq_true kz]; rfl
        have HI := Lib.hid hI; clear hI HK HOK HA HF ha
        generalize zs.getD k 0 = z at *
        have dk : decide ((k : Int) > 0) = false := decide_eq_false (by omega); have dk2 : decide (0 < k) = false := decide_eq_false (by omega); clear kz
        have HN2 := Lib.hid (HNext.out hok); clear HNext HStop hok
        go_wp2
        go_quiet ((go_at_call 52; exact quietI _ _ _ _ _ _ HI.out))
        go_wp2
        go_roundw
        case rel => exact ⟨k + 1, by omega, by go_num, HN2.out, _, by rw [HW.out]; exact World.drewN_drewN ..⟩
        case measure => simp [intOf]; omega
      have dk : decide ((k : Int) > 0) = true := decide_eq_true (by omega)
      have dk2 : decide (0 < k) = true := decide_eq_true (by omega)
      obtain ⟨b2, o2, e2, c1⟩ := row_int (k := k - 1) (ha.later HB.out) (by omega)
      cases e2
      have ek : ((k : Int) - 1).toNat = k - 1 := by omega
      have k2 : (k : Int) - 1 < (n : Int) := by omega
      have k3 : 0 ≤ (k : Int) - 1 := by omega
      rcases hP : decide (zs.getD (k - 1) 0 < zs.getD k 0) with _ | _
      · skip
        have hok : OK k = false := by rw [HK.out, hI, hP, decide_eq_false kz]; rfl
        have hge : decide (zs.getD (k - 1) 0 ≥ zs.getD k 0) = true := by simp at hP ⊢; omega
        have HI := Lib.hid hI; clear hI hP HK HOK HA HF ha
        generalize zs.getD k 0 = z at *
        generalize zs.getD (k - 1) 0 = zp at *
        obtain rfl := HStop.out hok
        go_wp2
        go_quiet ((go_at_call 52; exact quietI _ _ _ _ _ _ HI.out))
        go_wp2
        go_ret
        exact ⟨rfl, _, by rw [HW.out]; exact World.drewN_drewN ..⟩
      · skip
        have hok : OK k = true := by rw [HK.out, hI, hP, decide_eq_false kz]; rfl
        have hge : decide (zs.getD (k - 1) 0 ≥ zs.getD k 0) = false := by simp at hP ⊢; omega
        have HI := Lib.hid hI; clear hI hP HK HOK HA HF ha
        generalize zs.getD k 0 = z at *
        generalize zs.getD (k - 1) 0 = zp at *
        have HN2 := Lib.hid (HNext.out hok); clear HNext HStop hok
        go_wp2
        go_quiet ((go_at_call 52; exact quietI _ _ _ _ _ _ HI.out))
        go_wp2
        go_roundw
        case rel => exact ⟨k + 1, by omega, by go_num, HN2.out, _, by rw [HW.out]; exact World.drewN_drewN ..⟩
        case measure => simp [intOf]; omega
    · skip
      obtain rfl : k = n := by omega
      obtain rfl := HT.out (fun j hj => HA.out j (by rw [← HL.out]; exact hj))
      go_wp2
      go_ret
      exact ⟨rfl, _, HW.out⟩

end Go.Proofs.Ythihemfegjaenaa

end

section

namespace Go.Proofs.Ythihemfegjaenaa
open Go Ieee Go.RowKit
set_option linter.unusedVariables false
set_option linter.unusedSimpArgs false

def slitB (wd hi : Int) (xs ys : List Nat) (x : Int) (zs : List Int) : Bool := validB wd hi xs ys && (decide (0 ≤ x ∧ x < wd) && slitsB hi zs)
def slitP (wd x : Int) (zs : List Int) (i : Nat) : Bool := decide ((i : Int) % wd = x) && !hasI zs ((i : Int) / wd)

theorem implSlit1 (gx gs : Nat) (x0 : Int) (sa : Option Addr) (sc : Nat) (zs : List Int) (x y : Int) (w : World) (X : Blk w gx #[.int .i64 x0] 2) (S : Blk w gs #[.slice sa zs.length sc] 26) (hs : RowV w sa (ivals zs)) (hm : zs.length ≤ maxLen) : Calls Try.prog 85 #[.agg #[.int .i64 x, .int .i64 y], .pointer (some ⟨gx, 0, none⟩), .pointer (some ⟨gs, 0, none⟩)] w fun e w' => e = .returned (.bool (decide (x = x0) && !hasI zs y)) ∧ Below w.heap.size w w' := by
  have X1 := X.alloc (.cells #[.int .i64 x, .int .i64 y] 81)
  have S1 := S.alloc (.cells #[.int .i64 x, .int .i64 y] 81)
  have q9 := below_new w (.cells #[.int .i64 x, .int .i64 y] 81)
  have hs1 := hs.later q9
  have HB := Lib.hid q9; clear q9
  obtain ⟨Xc, Xf⟩ := X1.open; obtain ⟨Sc, Sf⟩ := S1.open
  by_cases h1 : x = x0
  · have d1 : (x == x0) = true := by simpa using h1
    have HR : Hid ((decide (x = x0) && !hasI zs y) = !hasI zs y) := Lib.hid (by rw [decide_eq_true h1]; rfl)
    rw [HR.out]
    clear h1
    go_enter Try.func85, Try.ntmps85
    go_wp2_with fail
    refine (implContains _ _ _ _ _ hs1 hm).mono ?_
    rintro e w9 ⟨rfl, rfl⟩
    go_wp2
    go_ret
    exact ⟨rfl, HB.out⟩
  · have d1 : (x == x0) = false := by simpa using h1
    have HR : Hid ((decide (x = x0) && !hasI zs y) = false) := Lib.hid (by rw [decide_eq_false h1]; rfl)
    rw [HR.out]
    clear h1
    go_enter Try.func85, Try.ntmps85
    go_wp2
    go_ret
    exact ⟨rfl, HB.out⟩

set_option maxHeartbeats 8000000 in
set_option maxRecDepth 100000 in
theorem implSlitSheetL (wd hi : Int) (wb : Bool) (a b : Option Addr) (ca cb : Nat) (xs ys : List Nat) (x : Int) (sa : Option Addr) (sc : Nat) (zs : List Int) (w : World) (ha : RowV w a (fvals xs)) (hb : RowV w b (fvals ys)) (qa : ∀ z ∈ xs, z < 2 ^ 32) (qb : ∀ z ∈ ys, z < 2 ^ 32) (hx : xs.length ≤ maxLen) (hy : ys.length ≤ maxLen) (w1 : (Lit.int .i64 x).wf = true) (hs : RowV w sa (ivals zs)) (hm : zs.length ≤ maxLen) :
    Calls Try.prog 32 #[.agg #[.int .i64 wd, .int .i64 hi, .bool wb, .slice a xs.length ca, .slice b ys.length cb], .int .i64 x, .slice sa zs.length sc] w (GaveSh w (slitB wd hi xs ys x zs) wd hi wb (chgC (slitP wd x zs) (fun _ => canon .f32 0) xs) (cl ys)) := by
  rcases hv : validB wd hi xs ys with _ | _
  · skip
    refine Calls.mono ?_ (fun e w9 h9 => gave_no (by unfold slitB; rw [hv]; rfl) h9)
    have H_v := Lib.hid hv; clear hv
    have X := Blk.new w #[.int .i64 wd, .int .i64 hi, .bool wb, .slice a xs.length ca, .slice b ys.length cb] 29
    have F := Blk.new1 w (.cells #[.int .i64 wd, .int .i64 hi, .bool wb, .slice a xs.length ca, .slice b ys.length cb] 29) #[.int .i64 x] 2
    replace X := X.alloc (.cells #[.int .i64 x] 2)
    have G := Blk.new2 w (.cells #[.int .i64 wd, .int .i64 hi, .bool wb, .slice a xs.length ca, .slice b ys.length cb] 29) (.cells #[.int .i64 x] 2) #[.slice sa zs.length sc] 26
    replace X := X.alloc (.cells #[.slice sa zs.length sc] 26)
    replace F := F.alloc (.cells #[.slice sa zs.length sc] 26)
    have R := Blk.new3 w (.cells #[.int .i64 wd, .int .i64 hi, .bool wb, .slice a xs.length ca, .slice b ys.length cb] 29) (.cells #[.int .i64 x] 2) (.cells #[.slice sa zs.length sc] 26) #[.int .i64 0, .int .i64 0, .bool false, .slice none 0 0, .slice none 0 0] 29
    replace X := X.alloc (.cells #[.int .i64 0, .int .i64 0, .bool false, .slice none 0 0, .slice none 0 0] 29)
    replace F := F.alloc (.cells #[.int .i64 0, .int .i64 0, .bool false, .slice none 0 0, .slice none 0 0] 29)
    replace G := G.alloc (.cells #[.int .i64 0, .int .i64 0, .bool false, .slice none 0 0, .slice none 0 0] 29)
    have HB : Hid (Below w.heap.size w ((((w.alloc (.cells #[.int .i64 wd, .int .i64 hi, .bool wb, .slice a xs.length ca, .slice b ys.length cb] 29)).alloc (.cells #[.int .i64 x] 2)).alloc (.cells #[.slice sa zs.length sc] 26)).alloc (.cells #[.int .i64 0, .int .i64 0, .bool false, .slice none 0 0, .slice none 0 0] 29))) := Lib.hid (((((Below.refl w.heap.size w).alloc (by simp <;> omega) _).alloc (by simp <;> omega) _).alloc (by simp <;> omega) _).alloc (by simp <;> omega) _)
    go_enter Try.func32, Try.ntmps32
    go_wp2_with fail
    generalize ((((w.alloc (.cells #[.int .i64 wd, .int .i64 hi, .bool wb, .slice a xs.length ca, .slice b ys.length cb] 29)).alloc (.cells #[.int .i64 x] 2)).alloc (.cells #[.slice sa zs.length sc] 26)).alloc (.cells #[.int .i64 0, .int .i64 0, .bool false, .slice none 0 0, .slice none 0 0] 29)) = u1 at *
    obtain ⟨Xc, Xf⟩ := X.open
    refine (implShapeOf _ _ _ _ _ _ _ _ _ _).mono ?_
    rintro r u2 ⟨rfl, q⟩
    clear Xc Xf
    replace X := X.later q
    replace F := F.later q
    replace G := G.later q
    replace R := R.later q
    replace HB := Lib.hid (HB.out.trans (q.mono HB.out.size))
    clear q
    have H := Blk.new u2 #[.int .i64 wd, .int .i64 hi, .bool wb] 78
    have q := below_new u2 (.cells #[.int .i64 wd, .int .i64 hi, .bool wb] 78)
    replace X := X.later q
    replace F := F.later q
    replace G := G.later q
    replace R := R.later q
    replace HB := Lib.hid (HB.out.trans (q.mono HB.out.size))
    clear q
    obtain ⟨Xc, Xf⟩ := X.open
    go_wp2_with fail
    generalize (u2.alloc (.cells #[.int .i64 wd, .int .i64 hi, .bool wb] 78)) = u3 at *
    refine (implValidSheet _ _ _ _ _ _ _ _ _ _ (ha.later HB.out) (hb.later HB.out) hx hy).mono ?_
    rintro r u4 ⟨rfl, q⟩
    clear Xc Xf
    replace X := X.later q
    replace F := F.later q
    replace G := G.later q
    replace R := R.later q
    replace H := H.later q
    replace HB := Lib.hid (HB.out.trans (q.mono HB.out.size))
    clear q
    rw [H_v.out]
    obtain ⟨Rc, Rf⟩ := R.open
    go_wp2
    refine bodyPost_ret (v := .tuple #[.agg #[.int .i64 0, .int .i64 0, .bool false, .slice none 0 0, .slice none 0 0], .bool false]) (by simp [results, Try.results32, go_sem, Rc]) rfl ⟨none, none, 0, 0, [], [], rfl, GotSheet.none (((((HB.out.setCell (p := ⟨w.heap.size + 1 + 1 + 1, 0, none⟩) (by first | omega | (simp <;> omega)) _).setCell (p := ⟨w.heap.size + 1 + 1 + 1, 1, none⟩) (by first | omega | (simp <;> omega)) _).setCell (p := ⟨w.heap.size + 1 + 1 + 1, 2, none⟩) (by first | omega | (simp <;> omega)) _).setCell (p := ⟨w.heap.size + 1 + 1 + 1, 3, none⟩) (by first | omega | (simp <;> omega)) _).setCell (p := ⟨w.heap.size + 1 + 1 + 1, 4, none⟩) (by first | omega | (simp <;> omega)) _)⟩
  have HB0 : Hid (slitB wd hi xs ys x zs = (decide (0 ≤ x ∧ x < wd) && slitsB hi zs)) := Lib.hid (by unfold slitB; rw [hv]; rfl)
  obtain ⟨s1, s2, s3, s4, hm2, lx, ly⟩ := valid_parts hv
  obtain ⟨t1, t2⟩ := (sides_mul (valid_sides hv)).2.2.2.2
  obtain ⟨n, hn⟩ := Int.eq_ofNat_of_zero_le (show 0 ≤ wd * hi by omega)
  have hxn : xs.length = n := by omega
  have hyn : ys.length = n := by omega
  have n256 : n ≤ 256 := by omega
  have n0 : 0 < n := by omega
  obtain ⟨ba, oa, rfl, hz0⟩ := ha 0 _ (fvals_get (show 0 < xs.length by omega)); clear hz0
  obtain ⟨bb, ob, rfl, hz1⟩ := hb 0 _ (fvals_get (show 0 < ys.length by omega)); clear hz1
  have CV : ∀ u, Below w.heap.size w u → Calls Try.prog 55 #[.agg #[.int .i64 wd, .int .i64 hi, .bool wb, .slice (some ⟨ba, oa, none⟩) n ca, .slice (some ⟨bb, ob, none⟩) n cb]] u fun e w' => e = .returned (.bool true) ∧ Below u.heap.size u w' := fun u hu => by
    have := implValidSheet wd hi wb _ _ ca cb xs ys u (ha.later hu) (hb.later hu) hx hy
    rw [hxn, hyn, hv] at this; exact this
  have HCV := Lib.hid CV; clear CV
  rw [hxn, hyn]
  have HN := Lib.hid hn; have HX := Lib.hid hxn; have HY := Lib.hid hyn; clear hn hxn hyn hv lx ly t1 t2
  rcases h0 : decide (0 ≤ x ∧ x < wd) with _ | _
  · skip
    refine Calls.mono ?_ (fun e w9 h9 => gave_no (by rw [HB0.out, h0]; rfl) h9)
    have H0 := Lib.hid h0; clear h0
    have X := Blk.new w #[.int .i64 wd, .int .i64 hi, .bool wb, .slice (some ⟨ba, oa, none⟩) n ca, .slice (some ⟨bb, ob, none⟩) n cb] 29
    have F := Blk.new1 w (.cells #[.int .i64 wd, .int .i64 hi, .bool wb, .slice (some ⟨ba, oa, none⟩) n ca, .slice (some ⟨bb, ob, none⟩) n cb] 29) #[.int .i64 x] 2
    replace X := X.alloc (.cells #[.int .i64 x] 2)
    have G := Blk.new2 w (.cells #[.int .i64 wd, .int .i64 hi, .bool wb, .slice (some ⟨ba, oa, none⟩) n ca, .slice (some ⟨bb, ob, none⟩) n cb] 29) (.cells #[.int .i64 x] 2) #[.slice sa zs.length sc] 26
    replace X := X.alloc (.cells #[.slice sa zs.length sc] 26)
    replace F := F.alloc (.cells #[.slice sa zs.length sc] 26)
    have R := Blk.new3 w (.cells #[.int .i64 wd, .int .i64 hi, .bool wb, .slice (some ⟨ba, oa, none⟩) n ca, .slice (some ⟨bb, ob, none⟩) n cb] 29) (.cells #[.int .i64 x] 2) (.cells #[.slice sa zs.length sc] 26) #[.int .i64 0, .int .i64 0, .bool false, .slice none 0 0, .slice none 0 0] 29
    replace X := X.alloc (.cells #[.int .i64 0, .int .i64 0, .bool false, .slice none 0 0, .slice none 0 0] 29)
    replace F := F.alloc (.cells #[.int .i64 0, .int .i64 0, .bool false, .slice none 0 0, .slice none 0 0] 29)
    replace G := G.alloc (.cells #[.int .i64 0, .int .i64 0, .bool false, .slice none 0 0, .slice none 0 0] 29)
    have HB : Hid (Below w.heap.size w ((((w.alloc (.cells #[.int .i64 wd, .int .i64 hi, .bool wb, .slice (some ⟨ba, oa, none⟩) n ca, .slice (some ⟨bb, ob, none⟩) n cb] 29)).alloc (.cells #[.int .i64 x] 2)).alloc (.cells #[.slice sa zs.length sc] 26)).alloc (.cells #[.int .i64 0, .int .i64 0, .bool false, .slice none 0 0, .slice none 0 0] 29))) := Lib.hid (((((Below.refl w.heap.size w).alloc (by simp <;> omega) _).alloc (by simp <;> omega) _).alloc (by simp <;> omega) _).alloc (by simp <;> omega) _)
    go_enter Try.func32, Try.ntmps32
    go_wp2_with fail
    generalize ((((w.alloc (.cells #[.int .i64 wd, .int .i64 hi, .bool wb, .slice (some ⟨ba, oa, none⟩) n ca, .slice (some ⟨bb, ob, none⟩) n cb] 29)).alloc (.cells #[.int .i64 x] 2)).alloc (.cells #[.slice sa zs.length sc] 26)).alloc (.cells #[.int .i64 0, .int .i64 0, .bool false, .slice none 0 0, .slice none 0 0] 29)) = u1 at *
    obtain ⟨Xc, Xf⟩ := X.open
    refine (implShapeOf _ _ _ _ _ _ _ _ _ _).mono ?_
    rintro r u2 ⟨rfl, q⟩
    clear Xc Xf
    replace X := X.later q
    replace F := F.later q
    replace G := G.later q
    replace R := R.later q
    replace HB := Lib.hid (HB.out.trans (q.mono HB.out.size))
    clear q
    have H := Blk.new u2 #[.int .i64 wd, .int .i64 hi, .bool wb] 78
    have q := below_new u2 (.cells #[.int .i64 wd, .int .i64 hi, .bool wb] 78)
    replace X := X.later q
    replace F := F.later q
    replace G := G.later q
    replace R := R.later q
    replace HB := Lib.hid (HB.out.trans (q.mono HB.out.size))
    clear q
    obtain ⟨Xc, Xf⟩ := X.open
    go_wp2_with fail
    generalize (u2.alloc (.cells #[.int .i64 wd, .int .i64 hi, .bool wb] 78)) = u3 at *
    refine (HCV.out _ HB.out).mono ?_
    rintro r u4 ⟨rfl, q⟩
    clear Xc Xf
    replace X := X.later q
    replace F := F.later q
    replace G := G.later q
    replace R := R.later q
    replace H := H.later q
    replace HB := Lib.hid (HB.out.trans (q.mono HB.out.size))
    clear q
    obtain ⟨Hc, Hf⟩ := H.open
    obtain ⟨Fc, Ff⟩ := F.open
    go_wp2_with fail
    refine (implHasCol _ _ _ _ _).mono ?_
    rintro r u5 ⟨rfl, q⟩
    clear Hc Hf
    clear Fc Ff
    replace X := X.later q
    replace F := F.later q
    replace G := G.later q
    replace R := R.later q
    replace H := H.later q
    replace HB := Lib.hid (HB.out.trans (q.mono HB.out.size))
    clear q
    rw [H0.out]
    obtain ⟨Rc, Rf⟩ := R.open
    go_wp2
    refine bodyPost_ret (v := .tuple #[.agg #[.int .i64 0, .int .i64 0, .bool false, .slice none 0 0, .slice none 0 0], .bool false]) (by simp [results, Try.results32, go_sem, Rc]) rfl ⟨none, none, 0, 0, [], [], rfl, GotSheet.none (((((HB.out.setCell (p := ⟨w.heap.size + 1 + 1 + 1, 0, none⟩) (by first | omega | (simp <;> omega)) _).setCell (p := ⟨w.heap.size + 1 + 1 + 1, 1, none⟩) (by first | omega | (simp <;> omega)) _).setCell (p := ⟨w.heap.size + 1 + 1 + 1, 2, none⟩) (by first | omega | (simp <;> omega)) _).setCell (p := ⟨w.heap.size + 1 + 1 + 1, 3, none⟩) (by first | omega | (simp <;> omega)) _).setCell (p := ⟨w.heap.size + 1 + 1 + 1, 4, none⟩) (by first | omega | (simp <;> omega)) _)⟩
  rcases h1 : slitsB hi zs with _ | _
  · skip
    refine Calls.mono ?_ (fun e w9 h9 => gave_no (by rw [HB0.out, h1]; exact Bool.and_false _) h9)
    have H0 := Lib.hid h0; clear h0; have H1 := Lib.hid h1; clear h1
    have X := Blk.new w #[.int .i64 wd, .int .i64 hi, .bool wb, .slice (some ⟨ba, oa, none⟩) n ca, .slice (some ⟨bb, ob, none⟩) n cb] 29
    have F := Blk.new1 w (.cells #[.int .i64 wd, .int .i64 hi, .bool wb, .slice (some ⟨ba, oa, none⟩) n ca, .slice (some ⟨bb, ob, none⟩) n cb] 29) #[.int .i64 x] 2
    replace X := X.alloc (.cells #[.int .i64 x] 2)
    have G := Blk.new2 w (.cells #[.int .i64 wd, .int .i64 hi, .bool wb, .slice (some ⟨ba, oa, none⟩) n ca, .slice (some ⟨bb, ob, none⟩) n cb] 29) (.cells #[.int .i64 x] 2) #[.slice sa zs.length sc] 26
    replace X := X.alloc (.cells #[.slice sa zs.length sc] 26)
    replace F := F.alloc (.cells #[.slice sa zs.length sc] 26)
    have R := Blk.new3 w (.cells #[.int .i64 wd, .int .i64 hi, .bool wb, .slice (some ⟨ba, oa, none⟩) n ca, .slice (some ⟨bb, ob, none⟩) n cb] 29) (.cells #[.int .i64 x] 2) (.cells #[.slice sa zs.length sc] 26) #[.int .i64 0, .int .i64 0, .bool false, .slice none 0 0, .slice none 0 0] 29
    replace X := X.alloc (.cells #[.int .i64 0, .int .i64 0, .bool false, .slice none 0 0, .slice none 0 0] 29)
    replace F := F.alloc (.cells #[.int .i64 0, .int .i64 0, .bool false, .slice none 0 0, .slice none 0 0] 29)
    replace G := G.alloc (.cells #[.int .i64 0, .int .i64 0, .bool false, .slice none 0 0, .slice none 0 0] 29)
    have HB : Hid (Below w.heap.size w ((((w.alloc (.cells #[.int .i64 wd, .int .i64 hi, .bool wb, .slice (some ⟨ba, oa, none⟩) n ca, .slice (some ⟨bb, ob, none⟩) n cb] 29)).alloc (.cells #[.int .i64 x] 2)).alloc (.cells #[.slice sa zs.length sc] 26)).alloc (.cells #[.int .i64 0, .int .i64 0, .bool false, .slice none 0 0, .slice none 0 0] 29))) := Lib.hid (((((Below.refl w.heap.size w).alloc (by simp <;> omega) _).alloc (by simp <;> omega) _).alloc (by simp <;> omega) _).alloc (by simp <;> omega) _)
    go_enter Try.func32, Try.ntmps32
    go_wp2_with fail
    generalize ((((w.alloc (.cells #[.int .i64 wd, .int .i64 hi, .bool wb, .slice (some ⟨ba, oa, none⟩) n ca, .slice (some ⟨bb, ob, none⟩) n cb] 29)).alloc (.cells #[.int .i64 x] 2)).alloc (.cells #[.slice sa zs.length sc] 26)).alloc (.cells #[.int .i64 0, .int .i64 0, .bool false, .slice none 0 0, .slice none 0 0] 29)) = u1 at *
    obtain ⟨Xc, Xf⟩ := X.open
    refine (implShapeOf _ _ _ _ _ _ _ _ _ _).mono ?_
    rintro r u2 ⟨rfl, q⟩
    clear Xc Xf
    replace X := X.later q
    replace F := F.later q
    replace G := G.later q
    replace R := R.later q
    replace HB := Lib.hid (HB.out.trans (q.mono HB.out.size))
    clear q
    have H := Blk.new u2 #[.int .i64 wd, .int .i64 hi, .bool wb] 78
    have q := below_new u2 (.cells #[.int .i64 wd, .int .i64 hi, .bool wb] 78)
    replace X := X.later q
    replace F := F.later q
    replace G := G.later q
    replace R := R.later q
    replace HB := Lib.hid (HB.out.trans (q.mono HB.out.size))
    clear q
    obtain ⟨Xc, Xf⟩ := X.open
    go_wp2_with fail
    generalize (u2.alloc (.cells #[.int .i64 wd, .int .i64 hi, .bool wb] 78)) = u3 at *
    refine (HCV.out _ HB.out).mono ?_
    rintro r u4 ⟨rfl, q⟩
    clear Xc Xf
    replace X := X.later q
    replace F := F.later q
    replace G := G.later q
    replace R := R.later q
    replace H := H.later q
    replace HB := Lib.hid (HB.out.trans (q.mono HB.out.size))
    clear q
    obtain ⟨Hc, Hf⟩ := H.open
    obtain ⟨Fc, Ff⟩ := F.open
    go_wp2_with fail
    refine (implHasCol _ _ _ _ _).mono ?_
    rintro r u5 ⟨rfl, q⟩
    clear Hc Hf
    clear Fc Ff
    replace X := X.later q
    replace F := F.later q
    replace G := G.later q
    replace R := R.later q
    replace H := H.later q
    replace HB := Lib.hid (HB.out.trans (q.mono HB.out.size))
    clear q
    rw [H0.out]
    obtain ⟨Hc, Hf⟩ := H.open
    obtain ⟨Gc, Gf⟩ := G.open
    go_wp2_with fail
    refine (implAreSlits _ _ _ _ _ _ _ (hs.later HB.out) hm).mono ?_
    rintro r u6 ⟨rfl, q⟩
    clear Hc Hf
    clear Gc Gf
    replace X := X.later q
    replace F := F.later q
    replace G := G.later q
    replace R := R.later q
    replace H := H.later q
    replace HB := Lib.hid (HB.out.trans (q.mono HB.out.size))
    clear q
    rw [H1.out]
    obtain ⟨Rc, Rf⟩ := R.open
    go_wp2
    refine bodyPost_ret (v := .tuple #[.agg #[.int .i64 0, .int .i64 0, .bool false, .slice none 0 0, .slice none 0 0], .bool false]) (by simp [results, Try.results32, go_sem, Rc]) rfl ⟨none, none, 0, 0, [], [], rfl, GotSheet.none (((((HB.out.setCell (p := ⟨w.heap.size + 1 + 1 + 1, 0, none⟩) (by first | omega | (simp <;> omega)) _).setCell (p := ⟨w.heap.size + 1 + 1 + 1, 1, none⟩) (by first | omega | (simp <;> omega)) _).setCell (p := ⟨w.heap.size + 1 + 1 + 1, 2, none⟩) (by first | omega | (simp <;> omega)) _).setCell (p := ⟨w.heap.size + 1 + 1 + 1, 3, none⟩) (by first | omega | (simp <;> omega)) _).setCell (p := ⟨w.heap.size + 1 + 1 + 1, 4, none⟩) (by first | omega | (simp <;> omega)) _)⟩
  have HBT : Hid (slitB wd hi xs ys x zs = true) := Lib.hid (by rw [HB0.out, h0, h1]; rfl)
  have H0 := Lib.hid h0; clear h0; have H1 := Lib.hid h1; clear h1
  have X := Blk.new w #[.int .i64 wd, .int .i64 hi, .bool wb, .slice (some ⟨ba, oa, none⟩) n ca, .slice (some ⟨bb, ob, none⟩) n cb] 29
  have F := Blk.new1 w (.cells #[.int .i64 wd, .int .i64 hi, .bool wb, .slice (some ⟨ba, oa, none⟩) n ca, .slice (some ⟨bb, ob, none⟩) n cb] 29) #[.int .i64 x] 2
  replace X := X.alloc (.cells #[.int .i64 x] 2)
  have G := Blk.new2 w (.cells #[.int .i64 wd, .int .i64 hi, .bool wb, .slice (some ⟨ba, oa, none⟩) n ca, .slice (some ⟨bb, ob, none⟩) n cb] 29) (.cells #[.int .i64 x] 2) #[.slice sa zs.length sc] 26
  replace X := X.alloc (.cells #[.slice sa zs.length sc] 26)
  replace F := F.alloc (.cells #[.slice sa zs.length sc] 26)
  have R := Blk.new3 w (.cells #[.int .i64 wd, .int .i64 hi, .bool wb, .slice (some ⟨ba, oa, none⟩) n ca, .slice (some ⟨bb, ob, none⟩) n cb] 29) (.cells #[.int .i64 x] 2) (.cells #[.slice sa zs.length sc] 26) #[.int .i64 0, .int .i64 0, .bool false, .slice none 0 0, .slice none 0 0] 29
  replace X := X.alloc (.cells #[.int .i64 0, .int .i64 0, .bool false, .slice none 0 0, .slice none 0 0] 29)
  replace F := F.alloc (.cells #[.int .i64 0, .int .i64 0, .bool false, .slice none 0 0, .slice none 0 0] 29)
  replace G := G.alloc (.cells #[.int .i64 0, .int .i64 0, .bool false, .slice none 0 0, .slice none 0 0] 29)
  have HB : Hid (Below w.heap.size w ((((w.alloc (.cells #[.int .i64 wd, .int .i64 hi, .bool wb, .slice (some ⟨ba, oa, none⟩) n ca, .slice (some ⟨bb, ob, none⟩) n cb] 29)).alloc (.cells #[.int .i64 x] 2)).alloc (.cells #[.slice sa zs.length sc] 26)).alloc (.cells #[.int .i64 0, .int .i64 0, .bool false, .slice none 0 0, .slice none 0 0] 29))) := Lib.hid (((((Below.refl w.heap.size w).alloc (by simp <;> omega) _).alloc (by simp <;> omega) _).alloc (by simp <;> omega) _).alloc (by simp <;> omega) _)
  go_enter Try.func32, Try.ntmps32
  go_wp2_with fail
  generalize ((((w.alloc (.cells #[.int .i64 wd, .int .i64 hi, .bool wb, .slice (some ⟨ba, oa, none⟩) n ca, .slice (some ⟨bb, ob, none⟩) n cb] 29)).alloc (.cells #[.int .i64 x] 2)).alloc (.cells #[.slice sa zs.length sc] 26)).alloc (.cells #[.int .i64 0, .int .i64 0, .bool false, .slice none 0 0, .slice none 0 0] 29)) = u1 at *
  obtain ⟨Xc, Xf⟩ := X.open
  refine (implShapeOf _ _ _ _ _ _ _ _ _ _).mono ?_
  rintro r u2 ⟨rfl, q⟩
  clear Xc Xf
  replace X := X.later q
  replace F := F.later q
  replace G := G.later q
  replace R := R.later q
  replace HB := Lib.hid (HB.out.trans (q.mono HB.out.size))
  clear q
  have H := Blk.new u2 #[.int .i64 wd, .int .i64 hi, .bool wb] 78
  have q := below_new u2 (.cells #[.int .i64 wd, .int .i64 hi, .bool wb] 78)
  replace X := X.later q
  replace F := F.later q
  replace G := G.later q
  replace R := R.later q
  replace HB := Lib.hid (HB.out.trans (q.mono HB.out.size))
  clear q
  obtain ⟨Xc, Xf⟩ := X.open
  go_wp2_with fail
  generalize (u2.alloc (.cells #[.int .i64 wd, .int .i64 hi, .bool wb] 78)) = u3 at *
  refine (HCV.out _ HB.out).mono ?_
  rintro r u4 ⟨rfl, q⟩
  clear Xc Xf
  replace X := X.later q
  replace F := F.later q
  replace G := G.later q
  replace R := R.later q
  replace H := H.later q
  replace HB := Lib.hid (HB.out.trans (q.mono HB.out.size))
  clear q
  obtain ⟨Hc, Hf⟩ := H.open
  obtain ⟨Fc, Ff⟩ := F.open
  go_wp2_with fail
  refine (implHasCol _ _ _ _ _).mono ?_
  rintro r u5 ⟨rfl, q⟩
  clear Hc Hf
  clear Fc Ff
  replace X := X.later q
  replace F := F.later q
  replace G := G.later q
  replace R := R.later q
  replace H := H.later q
  replace HB := Lib.hid (HB.out.trans (q.mono HB.out.size))
  clear q
  rw [H0.out]
  obtain ⟨Hc, Hf⟩ := H.open
  obtain ⟨Gc, Gf⟩ := G.open
  go_wp2_with fail
  refine (implAreSlits _ _ _ _ _ _ _ (hs.later HB.out) hm).mono ?_
  rintro r u6 ⟨rfl, q⟩
  clear Hc Hf
  clear Gc Gf
  replace X := X.later q
  replace F := F.later q
  replace G := G.later q
  replace R := R.later q
  replace H := H.later q
  replace HB := Lib.hid (HB.out.trans (q.mono HB.out.size))
  clear q
  rw [H1.out]
  obtain ⟨Fc, Ff⟩ := F.open
  obtain ⟨Gc, Gf⟩ := G.open
  obtain ⟨Xc, Xf⟩ := X.open
  go_wp2_with fail
  have HF := Lib.hid F; have HG := Lib.hid G; have HBC := HB; have szr := R.lt
  refine (implStilled wd hi wb ba oa ca bb ob cb n xs ys 85 #[] #[.pointer (some ⟨w.heap.size + 1, 0, none⟩), .pointer (some ⟨w.heap.size + 1 + 1, 0, none⟩)] (slitP wd x zs) _ (ha.later HB.out) (hb.later HB.out) qa HX.out HY.out s1 s2 n0 n256 (by exact ⟨_, rfl, by kernel_rfl, by kernel_rfl⟩) (fun i _ w' hw' => implSlit1 _ _ x sa sc zs ((i : Int) % wd) ((i : Int) / wd) w' (HF.out.later hw') (HG.out.later hw') (hs.later (HBC.out.trans (hw'.mono HBC.out.size))) hm)).mono ?_
  have sz := HB.out.size
  rintro r u7 ⟨g0, g1, c0, c1, L, rfl, o0, o1, hL, hI, ne, q⟩
  have HI := Lib.hid hI; have HL := Lib.hid hL; clear hI hL HF HG HBC
  have y0 := o0.bound g0 rfl; have y1 := o1.bound g1 rfl
  clear Fc Ff
  clear Gc Gf
  clear Xc Xf
  replace X := X.later q
  replace F := F.later q
  replace G := G.later q
  replace R := R.later q
  replace H := H.later q
  replace HB := Lib.hid (HB.out.trans (q.mono HB.out.size))
  clear q
  obtain ⟨Rc, Rf⟩ := R.open
  have O0 := Lib.hid o0; have O1 := Lib.hid o1; clear o0 o1
  go_wp2
  refine bodyPost_ret (v := .tuple #[.agg #[.int .i64 wd, .int .i64 hi, .bool wb, .slice (some ⟨g0, 0, none⟩) n c0, .slice (some ⟨g1, 0, none⟩) n c1], .bool true]) (by simp [results, Try.results32, go_sem, Rc]) rfl (gave_yes HBT.out HL.out HY.out ⟨((((((O0.out.lower (show w.heap.size ≤ _ by omega)).set (p := ⟨w.heap.size + 1 + 1 + 1, 0, none⟩) (ne_block (h := w.heap.size + 1 + 1 + 1) (by omega)) _).set (p := ⟨w.heap.size + 1 + 1 + 1, 1, none⟩) (ne_block (h := w.heap.size + 1 + 1 + 1) (by omega)) _).set (p := ⟨w.heap.size + 1 + 1 + 1, 2, none⟩) (ne_block (h := w.heap.size + 1 + 1 + 1) (by omega)) _).set (p := ⟨w.heap.size + 1 + 1 + 1, 3, none⟩) (ne_block (h := w.heap.size + 1 + 1 + 1) (by omega)) _).set (p := ⟨w.heap.size + 1 + 1 + 1, 4, none⟩) (ne_block (h := w.heap.size + 1 + 1 + 1) (by omega)) _), ((((((O1.out.lower (show w.heap.size ≤ _ by omega)).set (p := ⟨w.heap.size + 1 + 1 + 1, 0, none⟩) (ne_block (h := w.heap.size + 1 + 1 + 1) (by omega)) _).set (p := ⟨w.heap.size + 1 + 1 + 1, 1, none⟩) (ne_block (h := w.heap.size + 1 + 1 + 1) (by omega)) _).set (p := ⟨w.heap.size + 1 + 1 + 1, 2, none⟩) (ne_block (h := w.heap.size + 1 + 1 + 1) (by omega)) _).set (p := ⟨w.heap.size + 1 + 1 + 1, 3, none⟩) (ne_block (h := w.heap.size + 1 + 1 + 1) (by omega)) _).set (p := ⟨w.heap.size + 1 + 1 + 1, 4, none⟩) (ne_block (h := w.heap.size + 1 + 1 + 1) (by omega)) _), apart_ne ne, HI.out, Is.refl qb (by rw [HY.out]; exact n256), (((((HB.out.setCell (p := ⟨w.heap.size + 1 + 1 + 1, 0, none⟩) (by first | omega | (simp <;> omega)) _).setCell (p := ⟨w.heap.size + 1 + 1 + 1, 1, none⟩) (by first | omega | (simp <;> omega)) _).setCell (p := ⟨w.heap.size + 1 + 1 + 1, 2, none⟩) (by first | omega | (simp <;> omega)) _).setCell (p := ⟨w.heap.size + 1 + 1 + 1, 3, none⟩) (by first | omega | (simp <;> omega)) _).setCell (p := ⟨w.heap.size + 1 + 1 + 1, 4, none⟩) (by first | omega | (simp <;> omega)) _)⟩)

end Go.Proofs.Ythihemfegjaenaa

end

section

namespace Go.Proofs.Ythihemfegjaenaa
open Go Ieee Go.RowKit
set_option linter.unusedVariables false
set_option linter.unusedSimpArgs false

/-- a list in which the numbers of the cells told so far are others -/
structure PutAt (G : Nat → Option Nat) (xs : List Nat) (q : Nat → Bool) (L : List Nat) : Prop where
  len : L.length = xs.length
  lt : ∀ z ∈ L, z < 2 ^ 32
  num : ∀ j, j < xs.length → canon .f32 (L.getD j 0) = if q j then G j else canon .f32 (xs.getD j 0)

theorem PutAt.start {G : Nat → Option Nat} {xs : List Nat} {q : Nat → Bool} (h : ∀ z ∈ xs, z < 2 ^ 32) (hq : ∀ j, q j = false) : PutAt G xs q xs := ⟨rfl, h, fun j _ => by rw [hq j]; rfl⟩

theorem PutAt.put {G : Nat → Option Nat} {xs L : List Nat} {q q' : Nat → Bool} {k v : Nat} (h : PutAt G xs q L) (hk : k < xs.length) (hv : v < 2 ^ 32) (hc : canon .f32 v = G k) (hq : ∀ j, j < xs.length → q' j = (q j || decide (j = k))) : PutAt G xs q' (L.set k v) := by
  refine ⟨by rw [List.length_set]; exact h.len, fun z hz => ?_, fun j hj => ?_⟩
  · rcases List.mem_or_eq_of_mem_set hz with h' | h'
    · exact h.lt _ h'
    · rw [h']; exact hv
  · rw [hq j hj]
    by_cases e : j = k
    · subst e
      rw [decide_eq_true rfl, Bool.or_true, getD_get (by rw [List.length_set, h.len]; exact hj), List.getElem_set_self]; exact hc
    · rw [decide_eq_false e, Bool.or_false, List.getD_eq_getElem?_getD, List.getElem?_set, if_neg (fun h => e h.symm), ← List.getD_eq_getElem?_getD]
      exact h.num j hj

theorem PutAt.same {G : Nat → Option Nat} {xs L : List Nat} {q q' : Nat → Bool} (h : PutAt G xs q L) (hq : ∀ j, j < xs.length → q' j = q j) : PutAt G xs q' L := ⟨h.len, h.lt, fun j hj => by rw [hq j hj]; exact h.num j hj⟩

theorem PutAt.all {G : Nat → Option Nat} {xs L : List Nat} {q : Nat → Bool} (h : PutAt G xs q L) (hf : xs.length ≤ 256) : Is L (chgC q G xs) := by
  refine ⟨?_, h.lt, by rw [h.len]; exact hf⟩
  apply List.ext_getElem
  · unfold cl chgC; rw [List.length_map, List.length_map, List.length_range, h.len]
  · intro i hi hi'
    have h1 : i < L.length := by rw [cl_length] at hi; exact hi
    have h2 : i < xs.length := by rw [← h.len]; exact h1
    unfold cl chgC at *
    rw [List.getElem_map, List.getElem_map, List.getElem_range, ← getD_get h1]
    exact h.num i h2

theorem slot_in {wd hi x y : Int} {n : Nat} (hn : wd * hi = n) (s1 : 3 ≤ wd) (x0 : 0 ≤ x) (x1 : x < wd) (y0 : 0 ≤ y) (y1 : y < hi) : 0 ≤ wd * y ∧ wd * y ≤ n ∧ ∃ k : Nat, x + wd * y = k ∧ k < n := by
  have h1 := Int.mul_le_mul_of_nonneg_left (show y ≤ hi - 1 by omega) (show 0 ≤ wd by omega)
  have h2 : 0 ≤ wd * y := Int.mul_nonneg (by omega) y0
  rw [Int.mul_sub, Int.mul_one, hn] at h1
  obtain ⟨k, hk⟩ := Int.eq_ofNat_of_zero_le (show 0 ≤ x + wd * y by omega)
  exact ⟨h2, by omega, k, hk, by omega⟩

theorem slot_eq {wd x y : Int} {j k : Nat} (s1 : 3 ≤ wd) (x0 : 0 ≤ x) (x1 : x < wd) (hk : x + wd * y = k) : ((j : Int) % wd = x ∧ (j : Int) / wd = y) ↔ j = k := by
  constructor
  · rintro ⟨h1, h2⟩
    have := Int.emod_add_mul_ediv (j : Int) wd
    rw [h1, h2] at this
    omega
  · rintro rfl
    rw [← hk]
    exact ⟨by rw [Int.add_mul_emod_self_left, Int.emod_eq_of_lt x0 x1], by rw [Int.add_mul_ediv_left _ _ (by omega), Int.ediv_eq_zero_of_lt x0 x1, Int.zero_add]⟩

def slitQ (wd x : Int) (zs : List Int) (y : Int) (j : Nat) : Bool := decide ((j : Int) % wd = x ∧ (j : Int) / wd < y) && !hasI zs ((j : Int) / wd)

theorem slitQ_zero (wd x : Int) (zs : List Int) (h : 0 < wd) (j : Nat) : slitQ wd x zs 0 j = false := by
  unfold slitQ; rw [decide_eq_false]; rfl
  rintro ⟨_, h2⟩
  have := Int.ediv_nonneg (show 0 ≤ (j : Int) by omega) (show 0 ≤ wd by omega); omega
theorem slitQ_has {wd x y : Int} {zs : List Int} (h : hasI zs y = true) (j : Nat) : slitQ wd x zs (y + 1) j = slitQ wd x zs y j := by
  unfold slitQ
  by_cases e : (j : Int) / wd = y
  · rw [e, h]; simp
  · rw [show decide ((j : Int) % wd = x ∧ (j : Int) / wd < y + 1) = decide ((j : Int) % wd = x ∧ (j : Int) / wd < y) by rw [decide_eq_decide]; omega]
theorem slitQ_put {wd x y : Int} {zs : List Int} {k : Nat} (h : hasI zs y = false) (s1 : 3 ≤ wd) (x0 : 0 ≤ x) (x1 : x < wd) (hk : x + wd * y = k) (j : Nat) : slitQ wd x zs (y + 1) j = (slitQ wd x zs y j || decide (j = k)) := by
  unfold slitQ
  by_cases e : (j : Int) / wd = y
  · have he := slot_eq (j := j) s1 x0 x1 hk
    rw [e, h]
    rw [decide_eq_false (p := (j : Int) % wd = x ∧ y < y) (by omega)]
    simp only [Bool.not_false, Bool.and_true, Bool.false_or]
    rw [decide_eq_decide]
    constructor
    · rintro ⟨h1, _⟩; exact he.1 ⟨h1, e⟩
    · intro h1; exact ⟨(he.2 h1).1, by omega⟩
  · rw [show decide ((j : Int) % wd = x ∧ (j : Int) / wd < y + 1) = decide ((j : Int) % wd = x ∧ (j : Int) / wd < y) by rw [decide_eq_decide]; omega]
    rw [decide_eq_false (p := j = k) (fun h1 => e ((slot_eq (j := j) s1 x0 x1 hk).2 h1).2), Bool.or_false]
theorem slitQ_all {wd hi x : Int} {zs : List Int} {n : Nat} (hn : wd * hi = n) (s1 : 3 ≤ wd) (j : Nat) (hj : j < n) : slitP wd x zs j = slitQ wd x zs hi j := by
  unfold slitP slitQ
  have : (j : Int) / wd < hi := Int.ediv_lt_of_lt_mul (by omega) (by rw [Int.mul_comm, hn]; omega)
  rw [show decide ((j : Int) % wd = x ∧ (j : Int) / wd < hi) = decide ((j : Int) % wd = x) by rw [decide_eq_decide]; omega]

set_option maxHeartbeats 8000000 in
set_option maxRecDepth 100000 in
theorem specSlitSheetL (wd hi : Int) (wb : Bool) (a b : Option Addr) (ca cb : Nat) (xs ys : List Nat) (x : Int) (sa : Option Addr) (sc : Nat) (zs : List Int) (w : World) (ha : RowV w a (fvals xs)) (hb : RowV w b (fvals ys)) (qa : ∀ z ∈ xs, z < 2 ^ 32) (qb : ∀ z ∈ ys, z < 2 ^ 32) (hx : xs.length ≤ maxLen) (hy : ys.length ≤ maxLen) (w1 : (Lit.int .i64 x).wf = true) (hs : RowV w sa (ivals zs)) (hm : zs.length ≤ maxLen) :
    Calls Try.prog 30 #[.agg #[.int .i64 wd, .int .i64 hi, .bool wb, .slice a xs.length ca, .slice b ys.length cb], .int .i64 x, .slice sa zs.length sc] w (HasSh w (slitB wd hi xs ys x zs) wd hi wb (chgC (slitP wd x zs) (fun _ => canon .f32 0) xs) (cl ys)) := by
  rcases hv : validB wd hi xs ys with _ | _
  · skip
    refine Calls.mono ?_ (fun e w9 h9 => has_no (by unfold slitB; rw [hv]; rfl) h9)
    have H_v := Lib.hid hv; clear hv
    have X := Blk.new w #[.int .i64 wd, .int .i64 hi, .bool wb, .slice a xs.length ca, .slice b ys.length cb] 29
    have R := Blk.new1 w (.cells #[.int .i64 wd, .int .i64 hi, .bool wb, .slice a xs.length ca, .slice b ys.length cb] 29) #[.int .i64 0, .int .i64 0, .bool false, .slice none 0 0, .slice none 0 0] 29
    replace X := X.alloc (.cells #[.int .i64 0, .int .i64 0, .bool false, .slice none 0 0, .slice none 0 0] 29)
    have HB : Hid (Below w.heap.size w ((w.alloc (.cells #[.int .i64 wd, .int .i64 hi, .bool wb, .slice a xs.length ca, .slice b ys.length cb] 29)).alloc (.cells #[.int .i64 0, .int .i64 0, .bool false, .slice none 0 0, .slice none 0 0] 29))) := Lib.hid (((Below.refl w.heap.size w).alloc (by simp <;> omega) _).alloc (by simp <;> omega) _)
    go_enter Try.func30, Try.ntmps30
    go_wp2_with fail
    generalize ((w.alloc (.cells #[.int .i64 wd, .int .i64 hi, .bool wb, .slice a xs.length ca, .slice b ys.length cb] 29)).alloc (.cells #[.int .i64 0, .int .i64 0, .bool false, .slice none 0 0, .slice none 0 0] 29)) = u1 at *
    refine (specIs _ _ _ _ _ _ _ _ _ _ _ X (ha.later HB.out) (hb.later HB.out) hx hy).mono ?_
    rintro r u2 ⟨rfl, nq, hw⟩
    have q : Below u1.heap.size u1 u2 := by rw [hw]; exact below_drewN (Below.refl _ _) _
    clear hw
    replace X := X.later q
    replace R := R.later q
    replace HB := Lib.hid (HB.out.trans (q.mono HB.out.size))
    clear q
    rw [H_v.out]
    obtain ⟨Rc, Rf⟩ := R.open
    go_wp2
    refine bodyPost_ret (v := .tuple #[.agg #[.int .i64 0, .int .i64 0, .bool false, .slice none 0 0, .slice none 0 0], .bool false]) (by simp [results, Try.results30, go_sem, Rc]) rfl ⟨none, none, 0, 0, [], [], rfl, HasSheet.none (((((HB.out.setCell (p := ⟨w.heap.size + 1, 0, none⟩) (by first | omega | (simp <;> omega)) _).setCell (p := ⟨w.heap.size + 1, 1, none⟩) (by first | omega | (simp <;> omega)) _).setCell (p := ⟨w.heap.size + 1, 2, none⟩) (by first | omega | (simp <;> omega)) _).setCell (p := ⟨w.heap.size + 1, 3, none⟩) (by first | omega | (simp <;> omega)) _).setCell (p := ⟨w.heap.size + 1, 4, none⟩) (by first | omega | (simp <;> omega)) _)⟩
  have HB0 : Hid (slitB wd hi xs ys x zs = (decide (0 ≤ x ∧ x ≤ wd - 1) && slitsB hi zs)) := Lib.hid (by unfold slitB; rw [hv, show decide (0 ≤ x ∧ x < wd) = decide (0 ≤ x ∧ x ≤ wd - 1) by rw [decide_eq_decide]; omega]; rfl)
  obtain ⟨s1, s2, s3, s4, hm2, lx, ly⟩ := valid_parts hv
  obtain ⟨t1, t2⟩ := (sides_mul (valid_sides hv)).2.2.2.2
  obtain ⟨n, hn⟩ := Int.eq_ofNat_of_zero_le (show 0 ≤ wd * hi by omega)
  have hxn : xs.length = n := by omega
  have hyn : ys.length = n := by omega
  have n256 : n ≤ 256 := by omega
  have n0 : 0 < n := by omega
  obtain ⟨ba, oa, rfl, hz0⟩ := ha 0 _ (fvals_get (show 0 < xs.length by omega)); clear hz0
  obtain ⟨bb, ob, rfl, hz1⟩ := hb 0 _ (fvals_get (show 0 < ys.length by omega)); clear hz1
  have CV : ∀ u, Below w.heap.size w u → Blk u w.heap.size #[.int .i64 wd, .int .i64 hi, .bool wb, .slice (some ⟨ba, oa, none⟩) n ca, .slice (some ⟨bb, ob, none⟩) n cb] 29 → Calls Try.prog 50 #[.pointer (some ⟨w.heap.size, 0, none⟩)] u fun e w' => e = .returned (.bool true) ∧ Below u.heap.size u w' := fun u hu X => by
    have := specIs w.heap.size wd hi wb _ _ ca cb xs ys u (by rw [hxn, hyn]; exact X) (ha.later hu) (hb.later hu) hx hy
    rw [hv] at this
    exact this.mono fun e w' ⟨h, nq, hw⟩ => ⟨h, by rw [hw]; exact below_drewN (Below.refl _ _) _⟩
  have HCV := Lib.hid CV; clear CV
  rw [hxn, hyn]
  have HN := Lib.hid hn; have HX := Lib.hid hxn; have HY := Lib.hid hyn; clear hn hxn hyn hv lx ly t1 t2
  rcases h0 : decide (0 ≤ x ∧ x ≤ wd - 1) with _ | _
  · skip
    refine Calls.mono ?_ (fun e w9 h9 => has_no (by rw [HB0.out, h0]; rfl) h9)
    have H0 := Lib.hid h0; clear h0
    have X := Blk.new w #[.int .i64 wd, .int .i64 hi, .bool wb, .slice (some ⟨ba, oa, none⟩) n ca, .slice (some ⟨bb, ob, none⟩) n cb] 29
    have R := Blk.new1 w (.cells #[.int .i64 wd, .int .i64 hi, .bool wb, .slice (some ⟨ba, oa, none⟩) n ca, .slice (some ⟨bb, ob, none⟩) n cb] 29) #[.int .i64 0, .int .i64 0, .bool false, .slice none 0 0, .slice none 0 0] 29
    replace X := X.alloc (.cells #[.int .i64 0, .int .i64 0, .bool false, .slice none 0 0, .slice none 0 0] 29)
    have HB : Hid (Below w.heap.size w ((w.alloc (.cells #[.int .i64 wd, .int .i64 hi, .bool wb, .slice (some ⟨ba, oa, none⟩) n ca, .slice (some ⟨bb, ob, none⟩) n cb] 29)).alloc (.cells #[.int .i64 0, .int .i64 0, .bool false, .slice none 0 0, .slice none 0 0] 29))) := Lib.hid (((Below.refl w.heap.size w).alloc (by simp <;> omega) _).alloc (by simp <;> omega) _)
    go_enter Try.func30, Try.ntmps30
    go_wp2_with fail
    generalize ((w.alloc (.cells #[.int .i64 wd, .int .i64 hi, .bool wb, .slice (some ⟨ba, oa, none⟩) n ca, .slice (some ⟨bb, ob, none⟩) n cb] 29)).alloc (.cells #[.int .i64 0, .int .i64 0, .bool false, .slice none 0 0, .slice none 0 0] 29)) = u1 at *
    refine (HCV.out _ HB.out X).mono ?_
    rintro r u2 ⟨rfl, q⟩
    replace X := X.later q
    replace R := R.later q
    replace HB := Lib.hid (HB.out.trans (q.mono HB.out.size))
    clear q
    obtain ⟨Xc, Xf⟩ := X.open
    go_wp2_with fail
    refine (l00In_any _ _ _ _).mono ?_
    rintro r w9 ⟨rfl, rfl⟩
    rw [H0.out]
    clear Xc Xf
    obtain ⟨Rc, Rf⟩ := R.open
    go_wp2
    refine bodyPost_ret (v := .tuple #[.agg #[.int .i64 0, .int .i64 0, .bool false, .slice none 0 0, .slice none 0 0], .bool false]) (by simp [results, Try.results30, go_sem, Rc]) rfl ⟨none, none, 0, 0, [], [], rfl, HasSheet.none (((((HB.out.setCell (p := ⟨w.heap.size + 1, 0, none⟩) (by first | omega | (simp <;> omega)) _).setCell (p := ⟨w.heap.size + 1, 1, none⟩) (by first | omega | (simp <;> omega)) _).setCell (p := ⟨w.heap.size + 1, 2, none⟩) (by first | omega | (simp <;> omega)) _).setCell (p := ⟨w.heap.size + 1, 3, none⟩) (by first | omega | (simp <;> omega)) _).setCell (p := ⟨w.heap.size + 1, 4, none⟩) (by first | omega | (simp <;> omega)) _)⟩
  obtain ⟨x0, x1⟩ : 0 ≤ x ∧ x ≤ wd - 1 := of_decide_eq_true h0
  have hm2 := hm; unfold maxLen at hm2
  by_cases h8 : zs.length ≤ 8
  rotate_left
  · skip
    refine Calls.mono ?_ (fun e w9 h9 => has_no (by rw [HB0.out]; unfold slitsB; rw [decide_eq_false h8]; exact Bool.and_false _) h9)
    have H0 := Lib.hid h0; clear h0; have h9 : (8 : Int) < (zs.length : Int) := by omega
    have X := Blk.new w #[.int .i64 wd, .int .i64 hi, .bool wb, .slice (some ⟨ba, oa, none⟩) n ca, .slice (some ⟨bb, ob, none⟩) n cb] 29
    have R := Blk.new1 w (.cells #[.int .i64 wd, .int .i64 hi, .bool wb, .slice (some ⟨ba, oa, none⟩) n ca, .slice (some ⟨bb, ob, none⟩) n cb] 29) #[.int .i64 0, .int .i64 0, .bool false, .slice none 0 0, .slice none 0 0] 29
    replace X := X.alloc (.cells #[.int .i64 0, .int .i64 0, .bool false, .slice none 0 0, .slice none 0 0] 29)
    have HB : Hid (Below w.heap.size w ((w.alloc (.cells #[.int .i64 wd, .int .i64 hi, .bool wb, .slice (some ⟨ba, oa, none⟩) n ca, .slice (some ⟨bb, ob, none⟩) n cb] 29)).alloc (.cells #[.int .i64 0, .int .i64 0, .bool false, .slice none 0 0, .slice none 0 0] 29))) := Lib.hid (((Below.refl w.heap.size w).alloc (by simp <;> omega) _).alloc (by simp <;> omega) _)
    go_enter Try.func30, Try.ntmps30
    go_wp2_with fail
    generalize ((w.alloc (.cells #[.int .i64 wd, .int .i64 hi, .bool wb, .slice (some ⟨ba, oa, none⟩) n ca, .slice (some ⟨bb, ob, none⟩) n cb] 29)).alloc (.cells #[.int .i64 0, .int .i64 0, .bool false, .slice none 0 0, .slice none 0 0] 29)) = u1 at *
    refine (HCV.out _ HB.out X).mono ?_
    rintro r u2 ⟨rfl, q⟩
    replace X := X.later q
    replace R := R.later q
    replace HB := Lib.hid (HB.out.trans (q.mono HB.out.size))
    clear q
    obtain ⟨Xc, Xf⟩ := X.open
    go_wp2_with fail
    refine (l00In_any _ _ _ _).mono ?_
    rintro r w9 ⟨rfl, rfl⟩
    rw [H0.out]
    clear Xc Xf
    obtain ⟨Rc, Rf⟩ := R.open
    go_wp2
    refine bodyPost_ret (v := .tuple #[.agg #[.int .i64 0, .int .i64 0, .bool false, .slice none 0 0, .slice none 0 0], .bool false]) (by simp [results, Try.results30, go_sem, Rc]) rfl ⟨none, none, 0, 0, [], [], rfl, HasSheet.none (((((HB.out.setCell (p := ⟨w.heap.size + 1, 0, none⟩) (by first | omega | (simp <;> omega)) _).setCell (p := ⟨w.heap.size + 1, 1, none⟩) (by first | omega | (simp <;> omega)) _).setCell (p := ⟨w.heap.size + 1, 2, none⟩) (by first | omega | (simp <;> omega)) _).setCell (p := ⟨w.heap.size + 1, 3, none⟩) (by first | omega | (simp <;> omega)) _).setCell (p := ⟨w.heap.size + 1, 4, none⟩) (by first | omega | (simp <;> omega)) _)⟩
  have h9 : (zs.length : Int) ≤ 8 := by omega
  have HSL : Hid (slitsB hi zs = riseB hi zs) := Lib.hid (by unfold slitsB; rw [decide_eq_true h8]; rfl)
  rcases h1 : riseB hi zs with _ | _
  · skip
    refine Calls.mono ?_ (fun e w9 h9 => has_no (by rw [HB0.out, HSL.out, h1]; exact Bool.and_false _) h9)
    have H0 := Lib.hid h0; have H1 := Lib.hid h1; clear h0 h1
    have X := Blk.new w #[.int .i64 wd, .int .i64 hi, .bool wb, .slice (some ⟨ba, oa, none⟩) n ca, .slice (some ⟨bb, ob, none⟩) n cb] 29
    have R := Blk.new1 w (.cells #[.int .i64 wd, .int .i64 hi, .bool wb, .slice (some ⟨ba, oa, none⟩) n ca, .slice (some ⟨bb, ob, none⟩) n cb] 29) #[.int .i64 0, .int .i64 0, .bool false, .slice none 0 0, .slice none 0 0] 29
    replace X := X.alloc (.cells #[.int .i64 0, .int .i64 0, .bool false, .slice none 0 0, .slice none 0 0] 29)
    have HB : Hid (Below w.heap.size w ((w.alloc (.cells #[.int .i64 wd, .int .i64 hi, .bool wb, .slice (some ⟨ba, oa, none⟩) n ca, .slice (some ⟨bb, ob, none⟩) n cb] 29)).alloc (.cells #[.int .i64 0, .int .i64 0, .bool false, .slice none 0 0, .slice none 0 0] 29))) := Lib.hid (((Below.refl w.heap.size w).alloc (by simp <;> omega) _).alloc (by simp <;> omega) _)
    go_enter Try.func30, Try.ntmps30
    go_wp2_with fail
    generalize ((w.alloc (.cells #[.int .i64 wd, .int .i64 hi, .bool wb, .slice (some ⟨ba, oa, none⟩) n ca, .slice (some ⟨bb, ob, none⟩) n cb] 29)).alloc (.cells #[.int .i64 0, .int .i64 0, .bool false, .slice none 0 0, .slice none 0 0] 29)) = u1 at *
    refine (HCV.out _ HB.out X).mono ?_
    rintro r u2 ⟨rfl, q⟩
    replace X := X.later q
    replace R := R.later q
    replace HB := Lib.hid (HB.out.trans (q.mono HB.out.size))
    clear q
    obtain ⟨Xc, Xf⟩ := X.open
    go_wp2_with fail
    refine (l00In_any _ _ _ _).mono ?_
    rintro r w9 ⟨rfl, rfl⟩
    rw [H0.out]
    go_wp2_with fail
    refine (specRises _ _ _ _ _ (hs.later HB.out) hm h8).mono ?_
    rintro r u3 ⟨rfl, nq, hw⟩
    have q : Below u2.heap.size u2 u3 := by rw [hw]; exact below_drewN (Below.refl _ _) _
    clear hw
    clear Xc Xf
    replace X := X.later q
    replace R := R.later q
    replace HB := Lib.hid (HB.out.trans (q.mono HB.out.size))
    clear q
    rw [H1.out]
    obtain ⟨Rc, Rf⟩ := R.open
    go_wp2
    refine bodyPost_ret (v := .tuple #[.agg #[.int .i64 0, .int .i64 0, .bool false, .slice none 0 0, .slice none 0 0], .bool false]) (by simp [results, Try.results30, go_sem, Rc]) rfl ⟨none, none, 0, 0, [], [], rfl, HasSheet.none (((((HB.out.setCell (p := ⟨w.heap.size + 1, 0, none⟩) (by first | omega | (simp <;> omega)) _).setCell (p := ⟨w.heap.size + 1, 1, none⟩) (by first | omega | (simp <;> omega)) _).setCell (p := ⟨w.heap.size + 1, 2, none⟩) (by first | omega | (simp <;> omega)) _).setCell (p := ⟨w.heap.size + 1, 3, none⟩) (by first | omega | (simp <;> omega)) _).setCell (p := ⟨w.heap.size + 1, 4, none⟩) (by first | omega | (simp <;> omega)) _)⟩
  have HBT : Hid (slitB wd hi xs ys x zs = true) := Lib.hid (by rw [HB0.out, HSL.out, h0, h1]; rfl)
  have H0 := Lib.hid h0; clear h0; have H1 := Lib.hid h1; clear h1
  have HT : Hid (∀ L, PutAt (fun _ => canon .f32 0) xs (slitQ wd x zs hi) L → Is L (chgC (slitP wd x zs) (fun _ => canon .f32 0) xs)) := Lib.hid (fun L h => (h.same (q' := slitP wd x zs) (fun j hj => slitQ_all HN.out s1 j (by rw [← HX.out]; exact hj))).all (by rw [HX.out]; exact n256))
  have HST : Hid (PutAt (fun _ => canon .f32 0) xs (slitQ wd x zs 0) xs) := Lib.hid (PutAt.start qa (slitQ_zero wd x zs (by omega)))
  have X := Blk.new w #[.int .i64 wd, .int .i64 hi, .bool wb, .slice (some ⟨ba, oa, none⟩) n ca, .slice (some ⟨bb, ob, none⟩) n cb] 29
  have R := Blk.new1 w (.cells #[.int .i64 wd, .int .i64 hi, .bool wb, .slice (some ⟨ba, oa, none⟩) n ca, .slice (some ⟨bb, ob, none⟩) n cb] 29) #[.int .i64 0, .int .i64 0, .bool false, .slice none 0 0, .slice none 0 0] 29
  replace X := X.alloc (.cells #[.int .i64 0, .int .i64 0, .bool false, .slice none 0 0, .slice none 0 0] 29)
  have HB : Hid (Below w.heap.size w ((w.alloc (.cells #[.int .i64 wd, .int .i64 hi, .bool wb, .slice (some ⟨ba, oa, none⟩) n ca, .slice (some ⟨bb, ob, none⟩) n cb] 29)).alloc (.cells #[.int .i64 0, .int .i64 0, .bool false, .slice none 0 0, .slice none 0 0] 29))) := Lib.hid (((Below.refl w.heap.size w).alloc (by simp <;> omega) _).alloc (by simp <;> omega) _)
  go_enter Try.func30, Try.ntmps30
  go_wp2_with fail
  generalize ((w.alloc (.cells #[.int .i64 wd, .int .i64 hi, .bool wb, .slice (some ⟨ba, oa, none⟩) n ca, .slice (some ⟨bb, ob, none⟩) n cb] 29)).alloc (.cells #[.int .i64 0, .int .i64 0, .bool false, .slice none 0 0, .slice none 0 0] 29)) = u1 at *
  refine (HCV.out _ HB.out X).mono ?_
  rintro r u2 ⟨rfl, q⟩
  replace X := X.later q
  replace R := R.later q
  replace HB := Lib.hid (HB.out.trans (q.mono HB.out.size))
  clear q
  obtain ⟨Xc, Xf⟩ := X.open
  go_wp2_with fail
  refine (l00In_any _ _ _ _).mono ?_
  rintro r w9 ⟨rfl, rfl⟩
  rw [H0.out]
  go_wp2_with fail
  refine (specRises _ _ _ _ _ (hs.later HB.out) hm h8).mono ?_
  rintro r u3 ⟨rfl, nq, hw⟩
  have q : Below u2.heap.size u2 u3 := by rw [hw]; exact below_drewN (Below.refl _ _) _
  clear hw
  clear Xc Xf
  replace X := X.later q
  replace R := R.later q
  replace HB := Lib.hid (HB.out.trans (q.mono HB.out.size))
  clear q
  rw [H1.out]
  obtain ⟨Xc, Xf⟩ := X.open
  go_wp2_with fail
  have szr := R.lt; have szo := HB.out.size
  refine (specOwnS _ _ _ _ _ _ _ n wd hi wb xs ys _ X (ha.later HB.out) (hb.later HB.out) HX.out HY.out n0 n256).mono ?_
  rintro r u4 ⟨g0, g1, c0, c1, rfl, o0, o1, g01, q⟩
  have y0 := o0.bound g0 rfl; have y1 := o1.bound g1 rfl; have z0 := (o0.span _ rfl).2; have z1 := (o1.span _ rfl).2; dsimp only at z0 z1
  clear Xc Xf
  replace X := X.later q
  replace R := R.later q
  replace HB := Lib.hid (HB.out.trans (q.mono HB.out.size))
  clear q
  have W0 := Lib.hid (o0.lower (show w.heap.size ≤ _ by omega)); have W1 := Lib.hid (o1.lower (show w.heap.size ≤ _ by omega)); clear o0 o1
  have O := Blk.new u4 #[.int .i64 wd, .int .i64 hi, .bool wb, .slice (some ⟨g0, 0, none⟩) n c0, .slice (some ⟨g1, 0, none⟩) n c1] 29
  have q := below_new u4 (.cells #[.int .i64 wd, .int .i64 hi, .bool wb, .slice (some ⟨g0, 0, none⟩) n c0, .slice (some ⟨g1, 0, none⟩) n c1] 29)
  replace X := X.later q
  replace R := R.later q
  replace W0 := Lib.hid (W0.out.later q)
  replace W1 := Lib.hid (W1.out.later q)
  replace HB := Lib.hid (HB.out.trans (q.mono HB.out.size))
  clear q
  go_upto_region 4 with (fail)
  obtain ⟨gx, hgx⟩ : ∃ gx, gx = u4.heap.size := ⟨_, rfl⟩
  rw [← hgx] at O
  (try simp only [← hgx])
  have zx := O.lt
  generalize u4.alloc (.cells #[.int .i64 wd, .int .i64 hi, .bool wb, .slice (some ⟨g0, 0, none⟩) n c0, .slice (some ⟨g1, 0, none⟩) n c1] 29) = u5 at *
  have n1 : g0 ≠ gx := by omega
  have n2 : g1 ≠ gx := by omega
  have n3 : w.heap.size ≠ g0 := by omega
  have n4 : w.heap.size ≠ g1 := by omega
  have n5 : w.heap.size + 1 ≠ g0 := by omega
  have n6 : w.heap.size + 1 ≠ g1 := by omega
  have n7 : w.heap.size ≤ g0 := by omega
  have n8 : w.heap.size ≤ g1 := by omega
  have n9 : g0 ≠ g1 := by omega
  have n10 : w.heap.size + 1 ≠ gx := by omega
  clear y0 y1 z0 z1 szo szr hgx zx g01
  obtain ⟨Oc, Of⟩ := O.open
  obtain ⟨Xc, Xf⟩ := X.open
  go_wp2
  go_loopw [9] (fun iv wr => ∃ (k : Nat) (L : List Nat), (k : Int) ≤ hi ∧ iv = .int .i64 k ∧ PutAt (fun _ => canon .f32 0) xs (slitQ wd x zs k) L ∧ OwnV wr w.heap.size (some ⟨g0, 0, none⟩) (fvals L) ∧ OwnV wr w.heap.size (some ⟨g1, 0, none⟩) (fvals ys) ∧ Blk wr w.heap.size #[.int .i64 wd, .int .i64 hi, .bool wb, .slice (some ⟨ba, oa, none⟩) n ca, .slice (some ⟨bb, ob, none⟩) n cb] 29 ∧ Blk wr (w.heap.size + 1) #[.int .i64 0, .int .i64 0, .bool false, .slice none 0 0, .slice none 0 0] 29 ∧ Blk wr gx #[.int .i64 wd, .int .i64 hi, .bool wb, .slice (some ⟨g0, 0, none⟩) n c0, .slice (some ⟨g1, 0, none⟩) n c1] 29 ∧ Below w.heap.size w wr) (fun iv _ => (hi - intOf iv).toNat)
  case atStart => exact ⟨0, xs, by omega, rfl, HST.out, W0.out, W1.out, X, R, O, HB.out⟩
  case round =>
    obtain ⟨k, L, hk, rfl, hM, h5, h6, X, R, O, hb5⟩ := hrel
    replace W0 := Lib.hid h5; replace W1 := Lib.hid h6; replace HB := Lib.hid hb5; have HM2 := Lib.hid hM; clear h5 h6 hb5 hM HST
    by_cases hlt : (k : Int) < hi
    · skip
      obtain ⟨t1, t2, kk, hkk, hkn⟩ := slot_in HN.out s1 x0 (show x < wd by omega) (show (0 : Int) ≤ k by omega) hlt
      have kx : kk < xs.length := by rw [HX.out]; exact hkn
      have kL : kk < L.length := by rw [HM2.out.len]; exact kx
      have hw1 : IntKind.i64.wrap (wd * (k : Int)) = wd * (k : Int) := IntWalk.i64_in _ (by omega)
      have hw2 : IntKind.i64.wrap (x + wd * (k : Int)) = (kk : Int) := by rw [hkk]; exact IntWalk.i64_in _ (by omega)
      have hkq : (kk : Int) < (n : Int) := by omega
      have hk0 : (0 : Int) ≤ (kk : Int) := Int.natCast_nonneg kk
      rcases hf : hasI zs (k : Int) with _ | _
      · skip
        have HN9 : Hid (PutAt (fun _ => canon .f32 0) xs (slitQ wd x zs ((k + 1 : Nat) : Int)) (L.set kk 0)) := Lib.hid (HM2.out.put kx (show 0 < 2 ^ 32 by decide) rfl (fun j _ => slitQ_put hf s1 x0 (by omega) hkk j))
        have H_f := Lib.hid hf; clear hf hkk
        obtain ⟨Xc, Xf⟩ := X.open
        obtain ⟨Oc, Of⟩ := O.open
        obtain ⟨cs, tt9, _, hblk, hvv⟩ := own_some W0.out; obtain ⟨gcc, gcf⟩ := hblk.open; have f0 : wr.cell? ⟨g0, kk, none⟩ = some _ := (gcc _).trans (hvv kk _ (fvals_get kL)); have GF := gcf kk; clear gcc gcf hvv hblk
        have hp := own_put W0.out kk (.float .f32 0) (by rw [fvals_length]; exact kL)
        rw [fvals_set] at hp
        have HP2 := Lib.hid hp; clear hp
        go_wp2_with (go_at_call 81; refine (specHas _ _ _ _ _ (hs.later HB.out) hm).mono ?_; rintro e9 w9 ⟨rfl, rfl⟩; rw [H_f.out])
        go_roundw
        case rel => exact ⟨k + 1, _, by omega, by go_num, HN9.out, HP2.out, W1.out.set (fun x hx => by cases hx; exact fun h => n9 h.symm) _, X.setOther n3 _, R.setOther n5 _, O.setOther (fun h => n1 h.symm) _, HB.out.setCell (p := ⟨g0, kk, none⟩) n7 _⟩
        case measure => simp [intOf]; omega
      · skip
        have HN9 : Hid (PutAt (fun _ => canon .f32 0) xs (slitQ wd x zs ((k + 1 : Nat) : Int)) L) := Lib.hid (HM2.out.same (fun j _ => slitQ_has hf j))
        have H_f := Lib.hid hf; clear hf hkk
        obtain ⟨Xc, Xf⟩ := X.open
        obtain ⟨Oc, Of⟩ := O.open
        go_wp2_with (go_at_call 81; refine (specHas _ _ _ _ _ (hs.later HB.out) hm).mono ?_; rintro e9 w9 ⟨rfl, rfl⟩; rw [H_f.out])
        go_roundw
        case rel => exact ⟨k + 1, L, by omega, by go_num, HN9.out, W0.out, W1.out, X, R, O, HB.out⟩
        case measure => simp [intOf]; omega
    · skip
      have hke : hi = (k : Int) := by omega
      have HM3 : Hid (PutAt (fun _ => canon .f32 0) xs (slitQ wd x zs hi) L) := Lib.hid (by rw [hke]; exact HM2.out); clear hke
      obtain ⟨Xc, Xf⟩ := X.open
      obtain ⟨Oc, Of⟩ := O.open
      obtain ⟨Rc, Rf⟩ := R.open
      go_wp2
      refine bodyPost_ret (v := .tuple #[.agg #[.int .i64 wd, .int .i64 hi, .bool wb, .slice (some ⟨g0, 0, none⟩) n c0, .slice (some ⟨g1, 0, none⟩) n c1], .bool true]) (by simp [results, Try.results30, go_sem, Rc]) rfl (has_yes HBT.out (by rw [HM2.out.len, HX.out]) HY.out ⟨(((((W0.out.set (p := ⟨w.heap.size + 1, 0, none⟩) (ne_block (h := w.heap.size + 1) (by omega)) _).set (p := ⟨w.heap.size + 1, 1, none⟩) (ne_block (h := w.heap.size + 1) (by omega)) _).set (p := ⟨w.heap.size + 1, 2, none⟩) (ne_block (h := w.heap.size + 1) (by omega)) _).set (p := ⟨w.heap.size + 1, 3, none⟩) (ne_block (h := w.heap.size + 1) (by omega)) _).set (p := ⟨w.heap.size + 1, 4, none⟩) (ne_block (h := w.heap.size + 1) (by omega)) _), (((((W1.out.set (p := ⟨w.heap.size + 1, 0, none⟩) (ne_block (h := w.heap.size + 1) (by omega)) _).set (p := ⟨w.heap.size + 1, 1, none⟩) (ne_block (h := w.heap.size + 1) (by omega)) _).set (p := ⟨w.heap.size + 1, 2, none⟩) (ne_block (h := w.heap.size + 1) (by omega)) _).set (p := ⟨w.heap.size + 1, 3, none⟩) (ne_block (h := w.heap.size + 1) (by omega)) _).set (p := ⟨w.heap.size + 1, 4, none⟩) (ne_block (h := w.heap.size + 1) (by omega)) _), apart_ne n9, HT.out L HM3.out, (Is.refl qb (by rw [HY.out]; exact n256)), (((((HB.out.setCell (p := ⟨w.heap.size + 1, 0, none⟩) (by first | omega | (simp <;> omega)) _).setCell (p := ⟨w.heap.size + 1, 1, none⟩) (by first | omega | (simp <;> omega)) _).setCell (p := ⟨w.heap.size + 1, 2, none⟩) (by first | omega | (simp <;> omega)) _).setCell (p := ⟨w.heap.size + 1, 3, none⟩) (by first | omega | (simp <;> omega)) _).setCell (p := ⟨w.heap.size + 1, 4, none⟩) (by first | omega | (simp <;> omega)) _)⟩)

end Go.Proofs.Ythihemfegjaenaa

end
