/- The walks of the laws on names and check numbers. Conditions: none beyond those of each theorem. -/
import Derived.Test.YtdcpkndkehdhiacIn
import Derived.WalkKit
import Derived.WalkLawsBesides
import Derived.Lib.Hide
import Derived.Below
import Derived.WalkSmall
namespace Go.Proofs.Ytdcpkndkehdhiac
open Go Go.RowKit

theorem take_snoc (s : ByteArray) (k : Nat) (h : k < s.size) : s.data.toList.take (k + 1) = s.data.toList.take k ++ [s[k]] := by
  rw [List.take_succ_eq_append_getElem (by simpa using h)]; rfl

theorem take_all (s : ByteArray) : s.data.toList.take s.size = s.data.toList := List.take_of_length_le (by simp)

/-! ### Check numbers -/

def chk (c : Int) (l : List UInt8) : Int := l.foldl (fun c b => (677 * c + (b.toNat : Int) + 31) % 65003) c

theorem chk_bd (c : Int) (l : List UInt8) (h : 0 ≤ c ∧ c < 65003) : 0 ≤ chk c l ∧ chk c l < 65003 := by
  unfold chk
  induction l generalizing c with
  | nil => exact h
  | cons b l ih => exact ih _ ⟨Int.emod_nonneg _ (by decide), Int.emod_lt_of_pos _ (by decide)⟩

theorem chk_snoc (c : Int) (l : List UInt8) (b : UInt8) : chk c (l ++ [b]) = (677 * chk c l + (b.toNat : Int) + 31) % 65003 := by
  unfold chk; rw [List.foldl_append]; rfl

set_option maxHeartbeats 400000 in
theorem specCheck (c : Int) (s : ByteArray) (w : World) (hc : 0 ≤ c ∧ c < 65003) (hs : s.size ≤ maxLen) :
    Calls Try.prog 15 #[.int .i64 c, .string s] w fun e w' => e = .returned (.int .i64 (chk c s.data.toList)) ∧ w = w' := by
  unfold maxLen at hs
  have hc1 := hc.1
  have hc2 := hc.2
  go_enter Try.func15, Try.ntmps15
  go_wp2
  go_loop [0, 5] (fun n i => ∃ k : Nat, k ≤ s.size ∧ i = .int .i64 k ∧ n = .int .i64 (chk c (s.data.toList.take k))) (fun _ i => s.size - (intOf i).toNat)
  case atStart => exact ⟨0, Nat.zero_le _, rfl, rfl⟩
  case round =>
    obtain ⟨k, hk, rfl, rfl⟩ := hrel
    have hb := chk_bd c (s.data.toList.take k) hc
    have hb1 := hb.1
    have hb2 := hb.2
    clear hb
    by_cases hlt : k < s.size
    · have hsn := chk_snoc c (s.data.toList.take k) s[k]
      rw [← take_snoc s k hlt] at hsn
      have HS := Lib.hid hsn
      clear hsn
      have hu : (s[k].toNat : Int) < 256 := by have := s[k].toNat_lt; omega
      generalize hcc : chk c (s.data.toList.take k) = cc at *
      have HCC := Lib.hid hcc
      clear hcc
      go_wp2
      go_round
      case rel => exact ⟨k + 1, by omega, by go_num, by rw [HS.out]⟩
      case measure => simp [intOf]; omega
    · go_wp2
      go_ret
      obtain rfl : k = s.size := by omega
      exact ⟨by rw [take_all]; rfl, rfl⟩

def checkV (c : Int) (s : ByteArray) : Value := if 0 ≤ c ∧ c < 65003 then .tuple #[.int .i64 (chk c s.data.toList), .bool true] else .tuple #[.int .i64 0, .bool false]

set_option maxHeartbeats 400000 in
theorem implCheckOf (c : Int) (s : ByteArray) (w : World) (hs : s.size ≤ maxLen) :
    Calls Try.prog 9 #[.int .i64 c, .string s] w fun e w' => e = .returned (checkV c s) ∧ w = w' := by
  unfold maxLen at hs
  by_cases hc : 0 ≤ c ∧ c < 65003
  · have hc1 := hc.1
    have hc2 := hc.2
    have d1 : decide (c < 0) = false := decide_eq_false (by omega)
    have d2 : decide (65003 ≤ c) = false := decide_eq_false (by omega)
    go_enter Try.func9, Try.ntmps9
    go_wp2
    go_loop [6, 7, 17] (fun n _ i => ∃ k : Nat, k ≤ s.size ∧ i = .int .i64 k ∧ n = .int .i64 (chk c (s.data.toList.take k))) (fun _ _ i => s.size - (intOf i).toNat)
    case atStart => exact ⟨0, Nat.zero_le _, rfl, rfl⟩
    case round =>
      obtain ⟨k, hk, rfl, rfl⟩ := hrel
      have hb := chk_bd c (s.data.toList.take k) hc
      have hb1 := hb.1
      have hb2 := hb.2
      clear hb
      by_cases hlt : k < s.size
      · have hsn := chk_snoc c (s.data.toList.take k) s[k]
        rw [← take_snoc s k hlt] at hsn
        have HS := Lib.hid hsn
        clear hsn
        have hu : (s[k].toNat : Int) < 256 := by have := s[k].toNat_lt; omega
        generalize hcc : chk c (s.data.toList.take k) = cc at *
        have HCC := Lib.hid hcc
        clear hcc
        go_wp2
        go_round
        case rel => exact ⟨k + 1, by omega, by go_num, by rw [HS.out]⟩
        case measure => simp [intOf]; omega
      · go_wp2
        go_ret2
        obtain rfl : k = s.size := by omega
        exact ⟨by unfold checkV; rw [if_pos hc, take_all]; rfl, rfl⟩
  · by_cases h0 : c < 0
    · have d1 : decide (c < 0) = true := decide_eq_true h0
      go_enter Try.func9, Try.ntmps9
      go_wp2
      go_ret2
      exact ⟨by unfold checkV; rw [if_neg hc]; rfl, rfl⟩
    · have d1 : decide (c < 0) = false := decide_eq_false h0
      have d2 : decide (65003 ≤ c) = true := decide_eq_true (by omega)
      go_enter Try.func9, Try.ntmps9
      go_wp2
      go_ret2
      exact ⟨by unfold checkV; rw [if_neg hc]; rfl, rfl⟩

theorem specCheckOf (c : Int) (s : ByteArray) (w : World) (hs : s.size ≤ maxLen) :
    Calls Try.prog 8 #[.int .i64 c, .string s] w fun e w' => e = .returned (checkV c s) ∧ w = w' := by
  by_cases hc : 0 ≤ c ∧ c < 65003
  · have hd : decide ((0 : Int) ≤ c ∧ c ≤ 65002) = true := decide_eq_true (by omega)
    have hd2 : decide (c ≤ 65002) = true := decide_eq_true (by omega)
    go_enter Try.func8, Try.ntmps8
    go_wp2_with (first | (go_at_call 14; refine (l00In_any _ _ _ _).mono ?_; rintro e w' ⟨rfl, rfl⟩) | (go_at_call 15; refine (specCheck _ _ _ hc hs).mono ?_; rintro e w' ⟨rfl, rfl⟩))
    go_ret2
    exact ⟨by unfold checkV; rw [if_pos hc]; rfl, rfl⟩
  · have hd : decide ((0 : Int) ≤ c ∧ c ≤ 65002) = false := decide_eq_false (by omega)
    go_enter Try.func8, Try.ntmps8
    go_wp2_with (first | (go_at_call 14; refine (l00In_any _ _ _ _).mono ?_; rintro e w' ⟨rfl, rfl⟩))
    go_ret2
    exact ⟨by unfold checkV; rw [if_neg hc]; rfl, rfl⟩

theorem fnExactCheckOf_walk (c : Int) (s : ByteArray) (w : World) (_hc : (Lit.int .i64 c).wf = true) (hs : s.size ≤ maxLen) :
    Calls Try.prog 4 #[.int .i64 c, .string s] w fun e w' => e = .returned (.bool true) ∧ Below w.heap.size w w' := by
  obtain ⟨n, ok, hv⟩ : ∃ (n : Int) (ok : Bool), checkV c s = .tuple #[.int .i64 n, .bool ok] := by
    unfold checkV
    split
    · exact ⟨_, _, rfl⟩
    · exact ⟨_, _, rfl⟩
  have hm := hs
  unfold maxLen at hm
  by_cases hl : (1048576 : Int) < s.size
  · go_enter Try.func4, Try.ntmps4
    go_wp2
    go_ret
    exact ⟨rfl, Below.refl _ _⟩
  · go_enter Try.func4, Try.ntmps4
    go_wp2_with (first | (go_at_call 8; refine (specCheckOf _ _ _ hs).mono ?_; rintro e w' ⟨rfl, rfl⟩) | (go_at_call 9; refine (implCheckOf _ _ _ hs).mono ?_; rintro e w' ⟨rfl, rfl⟩))
    go_ret
    exact ⟨rfl, Below.refl _ _⟩

/-! ### Names -/

def low (b : UInt8) : Bool := decide (¬ (b.toNat : Int) < 97) && decide (¬ 122 < (b.toNat : Int))
def nameB (s : ByteArray) : Bool := decide (1 ≤ s.size ∧ s.size ≤ 8) && s.data.toList.all low

theorem all_snoc (l : List UInt8) (b : UInt8) : (l ++ [b]).all low = (l.all low && low b) := by simp

theorem not_all {s : ByteArray} {k : Nat} (h : k < s.size) (hb : low s[k] = false) : s.data.toList.all low = false := by
  rw [List.all_eq_false]
  refine ⟨s[k], ?_, by simp [hb]⟩
  have : s[k] = s.data.toList[k]'(by simpa using h) := rfl
  rw [this]; exact List.getElem_mem _

set_option maxHeartbeats 400000 in
theorem specName (s : ByteArray) (w : World) (hs : s.size ≤ maxLen) :
    Calls Try.prog 6 #[.string s] w fun e w' => e = .returned (.bool (nameB s)) ∧ w = w' := by
  unfold maxLen at hs
  go_enter Try.func6, Try.ntmps6
  go_wp2
  go_loop [2, 3] (fun r i => ∃ k : Nat, k ≤ s.size ∧ i = .int .i64 k ∧ r = .bool false ∧ (s.data.toList.take k).all low = true) (fun _ i => s.size - (intOf i).toNat)
  case atStart => exact ⟨0, Nat.zero_le _, rfl, rfl, rfl⟩
  case round =>
    obtain ⟨k, hk, rfl, rfl, hall⟩ := hrel
    have HA := Lib.hid hall
    clear hall
    by_cases hlt : k < s.size
    · have hu : (s[k].toNat : Int) < 256 := by have := s[k].toNat_lt; omega
      have hsn := all_snoc (s.data.toList.take k) s[k]
      rw [← take_snoc s k hlt, HA.out] at hsn
      have HS := Lib.hid hsn
      clear hsn
      by_cases h1 : (s[k].toNat : Int) < 97
      · have d1 : decide ((s[k].toNat : Int) < 97) = true := decide_eq_true h1
        have hn : low s[k] = false := by unfold low; rw [decide_eq_false (by omega)]; rfl
        have HN := Lib.hid (not_all hlt hn)
        clear hn
        go_wp2
        go_ret
        exact ⟨by unfold nameB; rw [HN.out, Bool.and_false]; rfl, rfl⟩
      · have d1 : decide ((s[k].toNat : Int) < 97) = false := decide_eq_false h1
        by_cases h2 : 122 < (s[k].toNat : Int)
        · have d2 : decide (122 < (s[k].toNat : Int)) = true := decide_eq_true h2
          have hn : low s[k] = false := by unfold low; rw [decide_eq_false (show ¬ ¬ 122 < (s[k].toNat : Int) by omega), Bool.and_false]
          have HN := Lib.hid (not_all hlt hn)
          clear hn
          go_wp2
          go_ret
          exact ⟨by unfold nameB; rw [HN.out, Bool.and_false]; rfl, rfl⟩
        · have d2 : decide (122 < (s[k].toNat : Int)) = false := decide_eq_false h2
          have hn : low s[k] = true := by unfold low; rw [decide_eq_true h1, decide_eq_true h2]; rfl
          have HN := Lib.hid hn
          clear hn
          go_wp2
          go_round
          case rel => exact ⟨k + 1, by omega, by go_num, rfl, by rw [HS.out, HN.out]; rfl⟩
          case measure => simp [intOf]; omega
    · obtain rfl : k = s.size := by omega
      by_cases h1 : 1 ≤ s.size
      · by_cases h2 : s.size ≤ 8
        · have d1 : decide ((1 : Int) ≤ (s.size : Int)) = true := decide_eq_true (by omega)
          have d2 : decide ((s.size : Int) ≤ 8) = true := decide_eq_true (by omega)
          go_wp2
          go_ret
          exact ⟨by unfold nameB; rw [decide_eq_true ⟨h1, h2⟩, ← take_all, HA.out]; rfl, rfl⟩
        · have d1 : decide ((1 : Int) ≤ (s.size : Int)) = true := decide_eq_true (by omega)
          have d2 : decide ((s.size : Int) ≤ 8) = false := decide_eq_false (by omega)
          go_wp2
          go_ret
          exact ⟨by unfold nameB; rw [decide_eq_false (by omega)]; rfl, rfl⟩
      · have d1 : decide ((1 : Int) ≤ (s.size : Int)) = false := decide_eq_false (by omega)
        go_wp2
        go_ret
        exact ⟨by unfold nameB; rw [decide_eq_false (by omega)]; rfl, rfl⟩

set_option maxHeartbeats 400000 in
theorem implName (s : ByteArray) (w : World) (hs : s.size ≤ maxLen) :
    Calls Try.prog 7 #[.string s] w fun e w' => e = .returned (.bool (nameB s)) ∧ w = w' := by
  unfold maxLen at hs
  by_cases h0 : (s.size : Int) < 1
  · have d0 : decide ((s.size : Int) < 1) = true := decide_eq_true h0
    go_enter Try.func7, Try.ntmps7
    go_wp2
    go_ret
    exact ⟨by unfold nameB; rw [decide_eq_false (by omega)]; rfl, rfl⟩
  · have d0 : decide ((s.size : Int) < 1) = false := decide_eq_false h0
    by_cases h8 : 8 < (s.size : Int)
    · have d8 : decide (8 < (s.size : Int)) = true := decide_eq_true h8
      go_enter Try.func7, Try.ntmps7
      go_wp2
      go_ret
      exact ⟨by unfold nameB; rw [decide_eq_false (by omega)]; rfl, rfl⟩
    · have d8 : decide (8 < (s.size : Int)) = false := decide_eq_false h8
      have hsz : 1 ≤ s.size ∧ s.size ≤ 8 := by omega
      go_enter Try.func7, Try.ntmps7
      go_wp2
      go_loop [2, 3, 14] (fun r _ i => ∃ k : Nat, k ≤ s.size ∧ i = .int .i64 k ∧ r = .bool false ∧ (s.data.toList.take k).all low = true) (fun _ _ i => s.size - (intOf i).toNat)
      case atStart => exact ⟨0, Nat.zero_le _, rfl, rfl, rfl⟩
      case round =>
        obtain ⟨k, hk, rfl, rfl, hall⟩ := hrel
        have HA := Lib.hid hall
        clear hall
        by_cases hlt : k < s.size
        · have hu : (s[k].toNat : Int) < 256 := by have := s[k].toNat_lt; omega
          have hsn := all_snoc (s.data.toList.take k) s[k]
          rw [← take_snoc s k hlt, HA.out] at hsn
          have HS := Lib.hid hsn
          clear hsn
          by_cases h1 : (s[k].toNat : Int) < 97
          · have d1 : decide ((s[k].toNat : Int) < 97) = true := decide_eq_true h1
            have hn : low s[k] = false := by unfold low; rw [decide_eq_false (by omega)]; rfl
            have HN := Lib.hid (not_all hlt hn)
            clear hn
            go_wp2
            go_ret
            exact ⟨by unfold nameB; rw [HN.out, Bool.and_false]; rfl, rfl⟩
          · have d1 : decide ((s[k].toNat : Int) < 97) = false := decide_eq_false h1
            by_cases h2 : 122 < (s[k].toNat : Int)
            · have d2 : decide (122 < (s[k].toNat : Int)) = true := decide_eq_true h2
              have hn : low s[k] = false := by unfold low; rw [decide_eq_false (show ¬ ¬ 122 < (s[k].toNat : Int) by omega), Bool.and_false]
              have HN := Lib.hid (not_all hlt hn)
              clear hn
              go_wp2
              go_ret
              exact ⟨by unfold nameB; rw [HN.out, Bool.and_false]; rfl, rfl⟩
            · have d2 : decide (122 < (s[k].toNat : Int)) = false := decide_eq_false h2
              have hn : low s[k] = true := by unfold low; rw [decide_eq_true h1, decide_eq_true h2]; rfl
              have HN := Lib.hid hn
              clear hn
              go_wp2
              go_round
              case rel => exact ⟨k + 1, by omega, by go_num, rfl, by rw [HS.out, HN.out]; rfl⟩
              case measure => simp [intOf]; omega
        · obtain rfl : k = s.size := by omega
          go_wp2
          go_ret
          exact ⟨by unfold nameB; rw [decide_eq_true hsz, ← take_all, HA.out]; rfl, rfl⟩

theorem fnExactIsName_walk (s : ByteArray) (w : World) (hs : s.size ≤ maxLen) :
    Calls Try.prog 3 #[.string s] w fun e w' => e = .returned (.bool true) ∧ Below w.heap.size w w' := by
  have hm := hs
  unfold maxLen at hm
  by_cases hl : (1048576 : Int) < s.size
  · go_enter Try.func3, Try.ntmps3
    go_wp2
    go_ret
    exact ⟨rfl, Below.refl _ _⟩
  · go_enter Try.func3, Try.ntmps3
    go_wp2_with (first | (go_at_call 6; refine (specName _ _ hs).mono ?_; rintro e w' ⟨rfl, rfl⟩) | (go_at_call 7; refine (implName _ _ hs).mono ?_; rintro e w' ⟨rfl, rfl⟩))
    go_ret
    exact ⟨rfl, Below.refl _ _⟩
end Go.Proofs.Ytdcpkndkehdhiac
