/- Lists, sheets and fields that are the same: the program's tests and the model's. Conditions: none beyond those of each theorem. -/
import Derived.Test.YtpnfgchifclhlaaBu2
import Derived.Test.YtpnfgchifclhlaaBu3
namespace Go.Proofs.Ytpnfgchifclhlaa
open Go Ieee Go.RowKit
set_option linter.unusedVariables false

def sameB (xs ys : List Nat) : Bool := decide (xs.length = ys.length) && (List.range xs.length).all fun i => bitsOf (xs.getD i 0) == bitsOf (ys.getD i 0)

theorem same_len {xs ys : List Nat} (h : xs.length ≠ ys.length) : sameB xs ys = false := by unfold sameB; rw [decide_eq_false h]; rfl

theorem same_yes {xs ys : List Nat} (h : xs.length = ys.length) (g : ∀ i, i < xs.length → (bitsOf (xs.getD i 0) == bitsOf (ys.getD i 0)) = true) : sameB xs ys = true := by
  unfold sameB
  rw [decide_eq_true h, Bool.true_and, List.all_eq_true]
  intro i hi
  exact g i (List.mem_range.1 hi)

theorem same_no {xs ys : List Nat} (i : Nat) (hi : i < xs.length) (g : (bitsOf (xs.getD i 0) == bitsOf (ys.getD i 0)) = false) : sameB xs ys = false := by
  rcases e : sameB xs ys with _ | _
  · rfl
  · unfold sameB at e
    rw [Bool.and_eq_true, List.all_eq_true] at e
    have := e.2 i (List.mem_range.2 hi)
    rw [g] at this; cases this

theorem getD_at {xs : List Nat} {i : Nat} (h : i < xs.length) : xs.getD i 0 = xs[i] := by simp [h]

set_option maxHeartbeats 2000000 in
theorem specSameAll (a b : Option Addr) (ca cb : Nat) (xs ys : List Nat) (w : World) (ha : RowV w a (fvals xs)) (hb : RowV w b (fvals ys)) (qa : ∀ z ∈ xs, z < 2 ^ 32) (qb : ∀ z ∈ ys, z < 2 ^ 32) (hn : xs.length ≤ maxLen) (hm : ys.length ≤ maxLen) : Calls Try.prog 51 #[.slice a xs.length ca, .slice b ys.length cb] w fun e w' => e = .returned (.bool (sameB xs ys)) ∧ ∃ n, w' = w.drewN n := by
  unfold maxLen at hn hm
  by_cases hl : xs.length = ys.length
  · skip
    generalize hr : sameB xs ys = r at *
    have HR := Lib.hid hr; clear hr
    generalize hlen : xs.length = n at *
    have HL := Lib.hid hlen; have HY := Lib.hid hl; clear hlen
    rw [← hl]; clear hl
    go_enter Try.func51, Try.ntmps51
    go_wp2
    go_loopw [5] (fun i wr => ∃ k : Nat, k ≤ n ∧ i = .int .i64 k ∧ (∀ j, j < k → (bitsOf (xs.getD j 0) == bitsOf (ys.getD j 0)) = true) ∧ ∃ m, wr = w.drewN m) (fun i _ => n - (intOf i).toNat)
    case atStart => exact ⟨0, Nat.zero_le _, rfl, fun j hj => by omega, 0, rfl⟩
    case round =>
      obtain ⟨k, hk, rfl, hall, m, hw⟩ := hrel
      have HW := Lib.hid hw; clear hw
      have HA := Lib.hid hall; clear hall
      by_cases hlt : k < n
      · skip
        have k1 : k < xs.length := by rw [HL.out]; exact hlt
        have k2 : k < ys.length := by rw [← HY.out]; exact hlt
        obtain ⟨ba, oa, rfl, c1⟩ := ha k _ (fvals_get k1)
        obtain ⟨bb, ob, rfl, c2⟩ := hb k _ (fvals_get k2)
        replace c1 : wr.cell? ⟨ba, oa + k, none⟩ = some (.float .f32 xs[k]) := by rw [HW.out]; exact c1
        replace c2 : wr.cell? ⟨bb, ob + k, none⟩ = some (.float .f32 ys[k]) := by rw [HW.out]; exact c2
        have bx : xs[k] < 2 ^ 32 := qa _ (List.getElem_mem _)
        have by_ : ys[k] < 2 ^ 32 := qb _ (List.getElem_mem _)
        have HG1 := Lib.hid (getD_at k1); have HG2 := Lib.hid (getD_at k2)
        have hki : ((k : Nat) : Int) < (n : Int) := by omega
        generalize xs[k] = x at *; generalize ys[k] = y at *
        rcases hq : (bitsOf x == bitsOf y) with _ | _
        · skip
          have HQ : Hid ((bitsOf (xs.getD k 0) == bitsOf (ys.getD k 0)) = false) := Lib.hid (by rw [HG1.out, HG2.out]; exact hq)
          have HF : Hid (r = false) := Lib.hid (by rw [← HR.out]; exact same_no k (by rw [HL.out]; exact hlt) HQ.out)
          have SS : ∀ v : World, Calls Try.prog 90 #[.float .f32 x, .float .f32 y] v fun e w' => e = .returned (.bool false) ∧ v = w' := fun v => (specSame x y v bx by_).mono fun e w' ⟨h1, h2⟩ => ⟨by rw [h1, hq], h2⟩
          have HQQ := Lib.hid hq; clear hq
          go_wp2
          go_quiet ((go_at_call 90; exact quietS (SS _)))
          go_wp2
          go_ret
          exact ⟨by rw [HF.out]; rfl, _, by rw [HW.out]; exact World.drewN_drewN ..⟩
        · skip
          have HQ : Hid ((bitsOf (xs.getD k 0) == bitsOf (ys.getD k 0)) = true) := Lib.hid (by rw [HG1.out, HG2.out]; exact hq)
          have SS : ∀ v : World, Calls Try.prog 90 #[.float .f32 x, .float .f32 y] v fun e w' => e = .returned (.bool true) ∧ v = w' := fun v => (specSame x y v bx by_).mono fun e w' ⟨h1, h2⟩ => ⟨by rw [h1, hq], h2⟩
          have HQQ := Lib.hid hq; clear hq
          go_wp2
          go_quiet ((go_at_call 90; exact quietS (SS _)))
          go_wp2
          go_roundw
          case rel =>
            refine ⟨k + 1, by omega, by go_num, fun j hj => ?_, _, by rw [HW.out]; exact World.drewN_drewN ..⟩
            by_cases e : j = k
            · subst e; exact HQ.out
            · exact HA.out j (by omega)
          case measure => simp [intOf]; omega
      · skip
        have HT : Hid (r = true) := Lib.hid (by rw [← HR.out]; exact same_yes (by rw [HL.out]; exact HY.out) (fun i hi => HA.out i (by rw [HL.out] at hi; omega)))
        go_wp2
        go_ret
        exact ⟨by rw [HT.out]; rfl, _, HW.out⟩
  · skip
    have HF := Lib.hid (same_len hl)
    have d1 : ((xs.length : Int) != (ys.length : Int)) = true := by simp; omega
    have d2 : (xs.length != ys.length) = true := by simpa using hl
    clear hl
    go_enter Try.func51, Try.ntmps51
    go_wp2
    go_ret
    exact ⟨by rw [HF.out]; rfl, 0, rfl⟩

set_option maxHeartbeats 2000000 in
theorem implEqualFunc (a b : Option Addr) (ca cb : Nat) (xs ys : List Nat) (w : World) (ha : RowV w a (fvals xs)) (hb : RowV w b (fvals ys)) (qa : ∀ z ∈ xs, z < 2 ^ 32) (qb : ∀ z ∈ ys, z < 2 ^ 32) (hn : xs.length ≤ maxLen) (hm : ys.length ≤ maxLen) : Calls Try.prog 91 #[.slice a xs.length ca, .slice b ys.length cb, .func (.func 92) #[] #[]] w fun e w' => e = .returned (.bool (sameB xs ys)) ∧ ∃ n, w' = w.drewN n := by
  unfold maxLen at hn hm
  by_cases hl : xs.length = ys.length
  · skip
    generalize hr : sameB xs ys = r at *
    have HR := Lib.hid hr; clear hr
    generalize hlen : xs.length = n at *
    have HL := Lib.hid hlen; have HY := Lib.hid hl; clear hlen
    rw [← hl]; clear hl
    go_enter Try.func91, Try.ntmps91
    go_wp2
    go_loopw [17] (fun i wr => ∃ k : Nat, k ≤ n ∧ i = .int .i64 k ∧ (∀ j, j < k → (bitsOf (xs.getD j 0) == bitsOf (ys.getD j 0)) = true) ∧ ∃ m, wr = w.drewN m) (fun i _ => n - (intOf i).toNat)
    case atStart => exact ⟨0, Nat.zero_le _, rfl, fun j hj => by omega, 0, rfl⟩
    case round =>
      obtain ⟨k, hk, rfl, hall, m, rfl⟩ := hrel
      have HA := Lib.hid hall; clear hall
      by_cases hlt : k < n
      · skip
        have k1 : k < xs.length := by rw [HL.out]; exact hlt
        have k2 : k < ys.length := by rw [← HY.out]; exact hlt
        obtain ⟨ba, oa, rfl, c1⟩ := ha k _ (fvals_get k1)
        obtain ⟨bb, ob, rfl, c2⟩ := hb k _ (fvals_get k2)
        have bx : xs[k] < 2 ^ 32 := qa _ (List.getElem_mem _)
        have by_ : ys[k] < 2 ^ 32 := qb _ (List.getElem_mem _)
        have HG1 := Lib.hid (getD_at k1); have HG2 := Lib.hid (getD_at k2)
        have hki : ((k : Nat) : Int) < (n : Int) := by omega
        generalize xs[k] = x at *; generalize ys[k] = y at *
        rcases hq : (bitsOf x == bitsOf y) with _ | _
        · skip
          have HQ : Hid ((bitsOf (xs.getD k 0) == bitsOf (ys.getD k 0)) = false) := Lib.hid (by rw [HG1.out, HG2.out]; exact hq)
          have HF : Hid (r = false) := Lib.hid (by rw [← HR.out]; exact same_no k (by rw [HL.out]; exact hlt) HQ.out)
          go_wp2_with fail
          refine (implSame _ _ _ bx by_).mono ?_
          rw [hq]
          rintro e w' ⟨rfl, m2, rfl⟩
          go_wp2
          go_ret
          exact ⟨by rw [HF.out]; rfl, _, rfl⟩
        · skip
          have HQ : Hid ((bitsOf (xs.getD k 0) == bitsOf (ys.getD k 0)) = true) := Lib.hid (by rw [HG1.out, HG2.out]; exact hq)
          go_wp2_with fail
          refine (implSame _ _ _ bx by_).mono ?_
          rw [hq]
          rintro e w' ⟨rfl, m2, rfl⟩
          go_wp2
          go_roundw
          case rel =>
            refine ⟨k + 1, by omega, by go_num, fun j hj => ?_, _, rfl⟩
            by_cases e : j = k
            · subst e; exact HQ.out
            · exact HA.out j (by omega)
          case measure => simp [intOf]; omega
      · skip
        have HT : Hid (r = true) := Lib.hid (by rw [← HR.out]; exact same_yes (by rw [HL.out]; exact HY.out) (fun i hi => HA.out i (by rw [HL.out] at hi; omega)))
        go_wp2
        go_ret
        exact ⟨by rw [HT.out]; rfl, _, rfl⟩
  · skip
    have HF := Lib.hid (same_len hl)
    have d1 : ((xs.length : Int) != (ys.length : Int)) = true := by simp; omega
    have d2 : (xs.length != ys.length) = true := by simpa using hl
    clear hl
    go_enter Try.func91, Try.ntmps91
    go_wp2
    go_ret
    exact ⟨by rw [HF.out]; rfl, 0, rfl⟩

theorem implSameAll (a b : Option Addr) (ca cb : Nat) (xs ys : List Nat) (w : World) (ha : RowV w a (fvals xs)) (hb : RowV w b (fvals ys)) (qa : ∀ z ∈ xs, z < 2 ^ 32) (qb : ∀ z ∈ ys, z < 2 ^ 32) (hn : xs.length ≤ maxLen) (hm : ys.length ≤ maxLen) : Calls Try.prog 54 #[.slice a xs.length ca, .slice b ys.length cb] w fun e w' => e = .returned (.bool (sameB xs ys)) ∧ ∃ n, w' = w.drewN n := by
  go_enter Try.func54, Try.ntmps54
  go_wp2_with fail
  refine (implEqualFunc _ _ _ _ _ _ _ ha hb qa qb hn hm).mono ?_
  rintro e w' ⟨rfl, n, rfl⟩
  go_wp2
  go_ret
  exact ⟨rfl, _, rfl⟩

end Go.Proofs.Ytpnfgchifclhlaa
