/- Several texts in one: facts on floats, lists, memory and the functions that the theorems beside this text use. Conditions: none beyond those of each theorem. -/
import Derived.Test.YthihemfegjaenaaBu2
import Derived.Test.YthihemfegjaenaaBu0
import Derived.Test.YthihemfegjaenaaBu14

set_option linter.unusedVariables false

section

namespace Go.Proofs.Ythihemfegjaenaa
open Go Ieee Go.RowKit
set_option linter.unusedVariables false
set_option linter.unusedSimpArgs false

structure CopiedF (w w' : World) (xs : List Nat) (g : Nat) : Prop where
  o0 : OwnV w' w.heap.size (some ⟨g, 0, none⟩) (fvals xs)
  below : Below w.heap.size w w'
  lt : w.heap.size < w'.heap.size

structure CopiedI (w w' : World) (xs : List Int) (g : Nat) : Prop where
  o0 : OwnV w' w.heap.size (some ⟨g, 0, none⟩) (ivals xs)
  below : Below w.heap.size w w'
  lt : w.heap.size < w'.heap.size

theorem tof32s_any (a : Option Addr) (cap : Nat) (xs : List Nat) (w : World) (hr : RowV w a (fvals xs)) (hn : xs.length ≤ 1048576) : Calls Try.prog 39 #[.slice a xs.length cap] w fun e w' => ∃ g, e = .returned (.slice (some ⟨g, 0, none⟩) xs.length xs.length) ∧ CopiedF w w' xs g :=
  (copyF a cap xs w hr hn).mono fun e w' ⟨h1, h2, h3, h4⟩ => ⟨_, h1, h2, h3, h4⟩

theorem eqf32s_any (a b : Option Addr) (ca cb : Nat) (xs : List Nat) (w : World) (ha : RowV w a (fvals xs)) (hb : RowV w b (fvals xs)) (hq : ∀ x ∈ xs, x < 2 ^ 32) (hn : xs.length ≤ maxLen) : Calls Try.prog 35 #[.slice a xs.length ca, .slice b xs.length cb] w fun e w' => e = .returned (.bool true) ∧ Below w.heap.size w w' :=
  (eqF32s a b ca cb xs xs w ha hb (SameF.refl hq) hn).mono fun e w' ⟨h1, n, h2⟩ => ⟨h1, by rw [h2]; exact below_drewN (Below.refl _ _) _⟩

set_option maxHeartbeats 1000000 in
theorem toI64s (a : Option Addr) (cap : Nat) (xs : List Int) (w : World) (hr : RowV w a (ivals xs)) (hn : xs.length ≤ 1048576) :
    Calls Try.prog 31 #[.slice a xs.length cap] w fun e w' => e = .returned (.slice (some ⟨w.heap.size, 0, none⟩) xs.length xs.length) ∧
      w'.ownsRow w.heap.size 2 1 (.slice (some ⟨w.heap.size, 0, none⟩) xs.length xs.length) xs.length (ivals xs) ∧ Below w.heap.size w w' := by
  obtain ⟨i0, hi, hz0, hz1, hz2⟩ := info_parts Try.infoI64
  generalize hlen : xs.length = n at *
  have HL := Lib.hid hlen
  clear hlen
  have hn1 : (n : Int) ≤ 1048576 := by omega
  have hbytes : i0.bytes * n ≤ 281474976710656 := by rw [hz2]; omega
  have HI := Lib.hid hi
  have HZ0 := Lib.hid hz0
  have HZ1 := Lib.hid hz1
  clear hi hz0 hz1 hz2
  go_enter Try.func31, Try.ntmps31
  go_wp2_with (at_make; refine wpList_make_full _ rfl _ _ 26 rfl w.heap.size 2 i0 (.int .i64 0) 1 Try.underlying26 HI.out HZ0.out HZ1.out .i64 .i64 _ _ n rfl rfl rfl rfl hbytes (by unfold maxLen; omega) (Nat.le_refl _) ?_; intro w1 hown hgrow)
  have hown' : w1.ownsRow w.heap.size 2 1 (.slice (some ⟨w.heap.size, 0, none⟩) n n) n (part (ivals xs) (.int .i64 0) 0) := by
    rw [part_zero, ivals_length, HL.out]
    have := hown
    rw [show (Value.int IntKind.i64 0).cells = #[.int .i64 0] from rfl, Nat.mul_one, toList_madeCells_one] at this
    exact this
  have hbel : Below w.heap.size w w1 := (Below.refl w.heap.size w).grown hgrow (Nat.le_refl _) (fun k hk => by cases hk)
  clear hown hgrow
  go_wp2
  go_loopw [4] (fun i wr => ∃ k : Nat, k ≤ n ∧ i = .int .i64 k ∧ wr.ownsRow w.heap.size 2 1 (.slice (some ⟨w.heap.size, 0, none⟩) n n) n (part (ivals xs) (.int .i64 0) k) ∧ Below w.heap.size w wr) (fun i _ => n - (intOf i).toNat)
  case atStart => exact ⟨0, Nat.zero_le _, rfl, hown', hbel⟩
  case round =>
    obtain ⟨k, hk, rfl, hown, hb⟩ := hrel
    have HO := Lib.hid hown
    have HW := Lib.hid hb
    clear hown hb hown' hbel
    by_cases hlt : k < n
    · have hx : (ivals xs)[k]? = some (.int .i64 (xs[k]'(by rw [HL.out]; exact hlt))) := ivals_get (by rw [HL.out]; exact hlt)
      obtain ⟨b, off, rfl, hc⟩ := hr k _ hx
      have hc2 : wr.cell? ⟨b, off + k, none⟩ = some (.int .i64 (xs[k]'(by rw [HL.out]; exact hlt))) := by
        rw [Below.cell HW.out (p := ⟨b, off + k, none⟩) (lt_of_cell hc)]; exact hc
      have hold := World.ownsRow.cellAt HO.out k (by omega)
      have hfr := World.ownsRow.frozenAt HO.out k
      have hst := World.ownsRow.stored HO.out k (.int .i64 (xs[k]'(by rw [HL.out]; exact hlt)))
      rw [part_set _ _ k (by rw [ivals_length, HL.out]; exact hlt) _ hx] at hst
      obtain ⟨v0, hv0⟩ : ∃ v, (part (ivals xs) (.int .i64 0) k)[k]? = some v := by
        have : k < (part (ivals xs) (.int .i64 0) k).length := by unfold part; simp [ivals_length, HL.out]; omega
        exact ⟨_, List.getElem?_eq_getElem this⟩
      rw [hv0] at hold
      have HS := Lib.hid hst
      have HX := Lib.hid hx
      clear hst hx hv0 hc
      generalize (xs[k]'(by rw [HL.out]; exact hlt)) = xk at *
      go_wp2
      go_roundw
      case rel => exact ⟨k + 1, by omega, by go_num, HS.out.1, HW.out.grown HS.out.2 HW.out.size (fun j hj => by cases hj; exact Nat.le_refl _)⟩
      case measure => simp [intOf]; omega
    · obtain rfl : k = n := by omega
      go_wp2
      go_ret
      have hp := part_all (ivals xs) (.int .i64 0)
      rw [ivals_length, HL.out] at hp
      have := HO.out
      rw [hp] at this
      exact ⟨rfl, this, HW.out⟩

theorem toi64s_any (a : Option Addr) (cap : Nat) (xs : List Int) (w : World) (hr : RowV w a (ivals xs)) (hn : xs.length ≤ 1048576) : Calls Try.prog 31 #[.slice a xs.length cap] w fun e w' => ∃ g, e = .returned (.slice (some ⟨g, 0, none⟩) xs.length xs.length) ∧ CopiedI w w' xs g :=
  (toI64s a cap xs w hr hn).mono fun e w' ⟨he, ho, hb⟩ => by
    have h : OwnV w' w.heap.size (some ⟨w.heap.size, 0, none⟩) (ivals xs) := .of_owned ho
    refine ⟨_, he, h, hb, ?_⟩
    rcases h with ⟨h, _⟩ | ⟨g, cs, t, h, _, hc, _⟩
    · cases h
    · cases h; exact hc.lt

theorem eqi64s_any (a b : Option Addr) (ca cb : Nat) (xs : List Int) (w : World) (ha : RowV w a (ivals xs)) (hb : RowV w b (ivals xs)) (hn : xs.length ≤ maxLen) : Calls Try.prog 15 #[.slice a xs.length ca, .slice b xs.length cb] w fun e w' => e = .returned (.bool true) ∧ Below w.heap.size w w' :=
  (eqI64s a b ca cb xs xs w ha hb rfl hn).mono fun e w' ⟨h1, n, h2⟩ => ⟨h1, by rw [h2]; exact below_drewN (Below.refl _ _) _⟩

end Go.Proofs.Ythihemfegjaenaa

end
