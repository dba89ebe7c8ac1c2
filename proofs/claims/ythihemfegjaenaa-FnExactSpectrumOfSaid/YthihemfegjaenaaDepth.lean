/- The depth of a cell: the program's and the model's. Conditions: none beyond those of each theorem. -/
import Derived.Test.YthihemfegjaenaaBu5
import Derived.Test.YthihemfegjaenaaBu14
namespace Go.Proofs.Ythihemfegjaenaa
open Go Ieee Go.RowKit
set_option linter.unusedVariables false

def mn2 (a b : Int) : Int := if a < b then a else b
def depI (wd hi x y : Int) : Int := mn2 (mn2 x (wd - 1 - x)) (mn2 y (hi - 1 - y))

theorem mn2_le (a b : Int) : mn2 a b ≤ a ∧ mn2 a b ≤ b ∧ (mn2 a b = a ∨ mn2 a b = b) := by
  unfold mn2; split <;> omega

theorem dep_in {wd hi x y : Int} (h : 0 ≤ x ∧ x < wd ∧ 0 ≤ y ∧ y < hi) : 0 ≤ depI wd hi x y ∧ depI wd hi x y ≤ x ∧ depI wd hi x y ≤ y := by
  unfold depI
  have h1 := mn2_le x (wd - 1 - x); have h2 := mn2_le y (hi - 1 - y); have h3 := mn2_le (mn2 x (wd - 1 - x)) (mn2 y (hi - 1 - y))
  omega

@[go_sem] theorem run_min_int4 {P : Program} (w : World) (ts : Array TypeId) (t : TypeId) (k k1 k2 k3 : IntKind) (a b c d : Int) : (Builtin.min_ ts t #[.int k a, .int k1 b, .int k2 c, .int k3 d]).run P w = .ok (.int k (mn2 (mn2 a c) (mn2 b d))) w := by
  have e : mn2 (mn2 a c) (mn2 b d) = (if d < (if c < (if b < a then b else a) then c else (if b < a then b else a)) then d else (if c < (if b < a then b else a) then c else (if b < a then b else a))) := by
    unfold mn2; repeat' split
    all_goals omega
  simp [Builtin.min_, Builtin.min2, e]

theorem implDepth (wd hi x y : Int) (wb : Bool) (w : World) (s1 : 3 ≤ wd) (s2 : wd ≤ 16) (s3 : 3 ≤ hi) (s4 : hi ≤ 16) (x0 : 0 ≤ x) (x1 : x < wd) (y0 : 0 ≤ y) (y1 : y < hi) :
    Calls Try.prog 70 #[.agg #[.int .i64 wd, .int .i64 hi, .bool wb], .agg #[.int .i64 x, .int .i64 y]] w fun e w' => e = .returned (.int .i64 (depI wd hi x y)) ∧ Below w.heap.size w w' := by
  have HB : Hid (Below w.heap.size w ((w.alloc (.cells #[.int .i64 wd, .int .i64 hi, .bool wb] 78)).alloc (.cells #[.int .i64 x, .int .i64 y] 81))) := Lib.hid (((Below.refl w.heap.size w).alloc (Nat.le_refl _) _).alloc (by simp) _)
  go_enter Try.func70, Try.ntmps70
  go_wp2
  go_ret
  exact ⟨rfl, HB.out⟩

theorem specMin (a b : Int) (w : World) : Calls Try.prog 88 #[.int .i64 a, .int .i64 b] w fun e w' => e = .returned (.int .i64 (mn2 a b)) ∧ w = w' := by
  by_cases h : a < b
  · rw [show mn2 a b = a from if_pos h]
    go_enter Try.func88, Try.ntmps88
    go_wp2
    go_ret
    exact ⟨rfl, rfl⟩
  · rw [show mn2 a b = b from if_neg h]
    go_enter Try.func88, Try.ntmps88
    go_wp2
    go_ret
    exact ⟨rfl, rfl⟩

theorem quietMin (a b : Int) (w : World) (n : Nat) : Calls Try.prog 88 #[.int .i64 a, .int .i64 b] (w.drewN n) fun e w'' => e = .returned (.int .i64 (mn2 a b)) ∧ ∃ m, w'' = w.drewN m := quietS (specMin a b _)

theorem specDepth (g : Nat) (wd hi i : Int) (wb : Bool) (v3 v4 : Value) (w : World) (X : Blk w g #[.int .i64 wd, .int .i64 hi, .bool wb, v3, v4] 29) (s1 : 3 ≤ wd) (s2 : wd ≤ 16) (s3 : 3 ≤ hi) (s4 : hi ≤ 16) (i0 : 0 ≤ i) (i1 : i < wd * hi) (i2 : wd * hi ≤ 256) :
    Calls Try.prog 65 #[.pointer (some ⟨g, 0, none⟩), .int .i64 i] w fun e w' => e = .returned (.int .i64 (depI wd hi (i % wd) (i / wd))) ∧ Below w.heap.size w w' := by
  have hr : i.tmod wd = i % wd := Int.tmod_eq_emod_of_nonneg i0
  have hq : i.tdiv wd = i / wd := Int.tdiv_eq_ediv_of_nonneg i0
  have hne : (wd == 0) = false := by simp; omega
  have hz : wd ≠ 0 := by omega
  have h5 : 0 ≤ i / wd := Int.ediv_nonneg i0 (by omega)
  have h6 : i / wd < hi := Int.ediv_lt_of_lt_mul (by omega) (by rw [Int.mul_comm]; exact i1)
  have h7 : 0 ≤ i % wd := Int.emod_nonneg _ (by omega)
  have h8 : i % wd < wd := Int.emod_lt_of_pos _ (by omega)
  have hw : IntKind.i64.wrap (i / wd) = i / wd := IntWalk.i64_in _ (by omega)
  have hpost : depI wd hi (i % wd) (i / wd) = mn2 (mn2 (i % wd) (wd - 1 - i % wd)) (mn2 (i / wd) (hi - 1 - i / wd)) := rfl
  rw [hpost]; clear hpost
  obtain ⟨Xc, Xf⟩ := X.open
  go_enter Try.func65, Try.ntmps65
  go_wp2_with fail
  clear hr hq hw
  generalize hx : i % wd = x at *
  generalize hy : i / wd = y at *
  have HX := Lib.hid hx; have HY := Lib.hid hy; clear hx hy
  go_quiet ((go_at_call 88; exact quietMin _ _ _ _))
  go_wp2
  go_ret
  exact ⟨by rw [HX.out, HY.out]; rfl, below_drewN (Below.refl _ _) _⟩

end Go.Proofs.Ythihemfegjaenaa
