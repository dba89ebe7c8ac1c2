/- Several texts in one: facts on floats, lists, memory and the functions that the theorems beside this text use. Conditions: none beyond those of each theorem. -/
import Derived.Test.YtedfbaeajofmnaaBu2
import Derived.Test.YtedfbaeajofmnaaBu0
import Derived.BigQuiet
import Derived.Deep.QuietTactic

set_option linter.unusedVariables false

section

namespace Go.Proofs.Ytedfbaeajofmnaa
open Go Ieee Go.RowKit

@[go_sem] theorem run_eq_ints2 (w : World) (a b c d : Int) : (Op.equalIn 10000 139 (.agg #[.int .i64 a, .int .i64 b]) (.agg #[.int .i64 c, .int .i64 d])).run Try.prog w = .ok (a == c && b == d) w := by
  have hu : Try.prog.underlying 139 = some (.array 2 3) := by kernel_rfl
  have hi : Try.prog.underlying 3 = some (.int .i64) := by kernel_rfl
  have hs : ∀ w, (sizeOf 3).run Try.prog w = .ok 1 w := fun w => by kernel_rfl
  have hp : ∀ (w : World) (x y : Int), (Go.part 3 #[.int .i64 x, .int .i64 y] 0).run Try.prog w = .ok (.int .i64 x) w := fun w x y => by kernel_rfl
  have hq : ∀ (w : World) (x y : Int), (Go.part 3 #[.int .i64 x, .int .i64 y] 1).run Try.prog w = .ok (.int .i64 y) w := fun w x y => by kernel_rfl
  have he : ∀ (w : World) (x y : Int), (Op.equalIn 9999 3 (.int .i64 x) (.int .i64 y)).run Try.prog w = .ok (x == y) w := fun w x y => run_equalIn_int w 9998 _ _ _ _ _ hi
  unfold Op.equalIn
  simp only [Sem.run_bind, run_underlying hu, Result.andThen_ok, hs]
  simp [Std.Legacy.Range.forIn_eq_forIn_range', Std.Legacy.Range.size, List.range', hp, hq, he, Sem.run_bind]
  by_cases h1 : a = c <;> by_cases h2 : b = d <;> simp [h1, h2]

@[go_sem] theorem run_eq_ints3 (w : World) (a b e c d f : Int) : (Op.equalIn 10000 99 (.agg #[.int .i64 a, .int .i64 b, .int .i64 e]) (.agg #[.int .i64 c, .int .i64 d, .int .i64 f])).run Try.prog w = .ok (a == c && (b == d && e == f)) w := by
  have hu : Try.prog.underlying 99 = some (.array 3 3) := by kernel_rfl
  have hi : Try.prog.underlying 3 = some (.int .i64) := by kernel_rfl
  have hs : ∀ w, (sizeOf 3).run Try.prog w = .ok 1 w := fun w => by kernel_rfl
  have hp : ∀ (w : World) (x y z : Int), (Go.part 3 #[.int .i64 x, .int .i64 y, .int .i64 z] 0).run Try.prog w = .ok (.int .i64 x) w := fun w x y z => by kernel_rfl
  have hq : ∀ (w : World) (x y z : Int), (Go.part 3 #[.int .i64 x, .int .i64 y, .int .i64 z] 1).run Try.prog w = .ok (.int .i64 y) w := fun w x y z => by kernel_rfl
  have hr : ∀ (w : World) (x y z : Int), (Go.part 3 #[.int .i64 x, .int .i64 y, .int .i64 z] 2).run Try.prog w = .ok (.int .i64 z) w := fun w x y z => by kernel_rfl
  have he : ∀ (w : World) (x y : Int), (Op.equalIn 9999 3 (.int .i64 x) (.int .i64 y)).run Try.prog w = .ok (x == y) w := fun w x y => run_equalIn_int w 9998 _ _ _ _ _ hi
  unfold Op.equalIn
  simp only [Sem.run_bind, run_underlying hu, Result.andThen_ok, hs]
  simp [Std.Legacy.Range.forIn_eq_forIn_range', Std.Legacy.Range.size, List.range', hp, hq, hr, he, Sem.run_bind]
  by_cases h1 : a = c <;> by_cases h2 : b = d <;> by_cases h3 : e = f <;> simp [h1, h2, h3]

end Go.Proofs.Ytedfbaeajofmnaa

end

section

namespace Go.Proofs.Ytedfbaeajofmnaa
open Go Ieee Go.RowKit

/-- a call that leaves the world alone, in a quiet region -/
theorem quietS {P : Program} {f : FuncId} {args : Array Value} {w : World} {n : Nat} {v : Value} (h : Calls P f args (w.drewN n) fun e w' => e = .returned v ∧ w.drewN n = w') : Calls P f args (w.drewN n) fun e w'' => e = .returned v ∧ ∃ m, w'' = w.drewN m :=
  h.mono fun _ _ ⟨he, hm⟩ => ⟨he, n, hm.symm⟩

theorem all_of {α : Type} {p : α → Bool} {xs : List α} (h : ∀ j (hj : j < xs.length), p xs[j] = true) : xs.all p = true := by
  rw [List.all_eq_true]
  intro x hx
  obtain ⟨i, hi, rfl⟩ := List.getElem_of_mem hx
  exact h i hi

theorem not_all {α : Type} {p : α → Bool} {xs : List α} (i : Nat) (hi : i < xs.length) (h : p xs[i] = false) : xs.all p = false := by
  rcases e : xs.all p with _ | _
  · rfl
  · rw [List.all_eq_true] at e
    rw [e _ (List.getElem_mem hi)] at h
    cases h

def swapO : Option Ordering → Option Ordering
  | some o => some o.swap
  | none => none

theorem order_swap (k : FloatKind) (a b : Nat) : k.format.order a b = swapO (k.format.order b a) := by
  by_cases ha : isN k a = true
  · rw [order_nan_left ha, order_nan_right ha]; rfl
  · by_cases hb : isN k b = true
    · rw [order_nan_left hb, order_nan_right hb]; rfl
    · rw [order_key k (by simpa using ha) (by simpa using hb), order_key k (by simpa using hb) (by simpa using ha)]
      show _ = some _
      rw [Int.compare_swap]

/-- x is at least l -/
def geB (x l : Nat) : Bool := FloatKind.f32.format.order x l == some .gt || FloatKind.f32.format.order x l == some .eq
def gtB (x l : Nat) : Bool := FloatKind.f32.format.order x l == some .gt
def leB (x l : Nat) : Bool := FloatKind.f32.format.order x l == some .lt || FloatKind.f32.format.order x l == some .eq

/-- x is from 0 to m -/
def inB (m x : Nat) : Bool := geB x 0 && !gtB x m

theorem leB_swap (a b : Nat) : leB a b = geB b a := by
  unfold leB geB
  rw [order_swap .f32 a b]
  cases FloatKind.f32.format.order b a with
  | none => rfl
  | some o => cases o <;> rfl

theorem inB_eq (m x : Nat) (hm : isN .f32 m = false) : (leB 0 x && leB x m) = inB m x := by
  rw [leB_swap 0 x]
  unfold inB
  cases hg : geB x 0 with
  | false => rfl
  | true =>
    have hx : isN .f32 x = false := by
      rcases hn : isN .f32 x with _ | _
      · rfl
      · unfold geB at hg
        rw [order_nan_left hn] at hg; cases hg
    simp only [Bool.true_and]
    unfold leB gtB
    rw [order_key .f32 hx hm]
    cases compare (key FloatKind.f32.format x) (key FloatKind.f32.format m) <;> rfl

def sidesB (wd hi : Int) : Bool := decide (3 ≤ wd ∧ wd ≤ 16) && decide (3 ≤ hi ∧ hi ≤ 16)

theorem sides_mul {wd hi : Int} (h : sidesB wd hi = true) : 3 ≤ wd ∧ wd ≤ 16 ∧ 3 ≤ hi ∧ hi ≤ 16 ∧ 9 ≤ wd * hi ∧ wd * hi ≤ 256 := by
  unfold sidesB at h
  simp only [Bool.and_eq_true, decide_eq_true_eq] at h
  obtain ⟨⟨a, b⟩, c, d⟩ := h
  refine ⟨a, b, c, d, ?_, ?_⟩
  · have := Int.mul_le_mul a c (by omega) (by omega); omega
  · have := Int.mul_le_mul b d (by omega) (by omega); omega

def validB (wd hi : Int) (xs ys : List Nat) : Bool := sidesB wd hi && (decide ((xs.length : Int) = wd * hi) && (decide ((ys.length : Int) = wd * hi) && (xs.all (inB 1056964608) && ys.all (inB 1065353216))))

theorem specSides (wd hi : Int) (w : World) : Calls Try.prog 97 #[.int .i64 wd, .int .i64 hi] w fun e w' => e = .returned (.bool (sidesB wd hi)) ∧ w = w' := by
  by_cases h1 : 3 ≤ wd ∧ wd ≤ 16
  · have d1 : decide (3 ≤ wd ∧ wd ≤ 16) = true := decide_eq_true h1
    by_cases h2 : 3 ≤ hi ∧ hi ≤ 16
    · have d2 : decide (3 ≤ hi ∧ hi ≤ 16) = true := decide_eq_true h2
      have hs : sidesB wd hi = true := by unfold sidesB; rw [d1, d2]; rfl
      obtain ⟨_, _, _, _, hm1, hm2⟩ := sides_mul hs
      rw [hs]
      clear h1 h2 hs
      go_enter Try.func97, Try.ntmps97
      go_wp2_with (go_at_call 66; refine (l00In_any _ _ _ _).mono ?_; rintro e w' ⟨rfl, rfl⟩)
      go_ret
      exact ⟨rfl, rfl⟩
    · have d2 : decide (3 ≤ hi ∧ hi ≤ 16) = false := decide_eq_false h2
      have hs : sidesB wd hi = false := by unfold sidesB; rw [d1, d2]; rfl
      rw [hs]
      clear h1 h2 hs
      go_enter Try.func97, Try.ntmps97
      go_wp2_with (go_at_call 66; refine (l00In_any _ _ _ _).mono ?_; rintro e w' ⟨rfl, rfl⟩)
      go_ret
      exact ⟨rfl, rfl⟩
  · have d1 : decide (3 ≤ wd ∧ wd ≤ 16) = false := decide_eq_false h1
    have hs : sidesB wd hi = false := by unfold sidesB; rw [d1]; rfl
    rw [hs]
    clear h1 hs
    go_enter Try.func97, Try.ntmps97
    go_wp2_with (go_at_call 66; refine (l00In_any _ _ _ _).mono ?_; rintro e w' ⟨rfl, rfl⟩)
    go_ret
    exact ⟨rfl, rfl⟩

/-- from 3 to 16 -/
def sideB (n : Int) : Bool := decide (3 ≤ n ∧ n ≤ 16)

theorem implSide (n : Int) (w : World) : Calls Try.prog 140 #[.int .i64 n] w fun e w' => e = .returned (.bool (sideB n)) ∧ w = w' := by
  by_cases h1 : 3 ≤ n
  · have d1 : decide (3 ≤ n) = true := decide_eq_true h1
    by_cases h2 : n ≤ 16
    · have d2 : decide (n ≤ 16) = true := decide_eq_true h2
      have hs : sideB n = true := decide_eq_true ⟨h1, h2⟩
      rw [hs]; clear hs h1 h2
      go_enter Try.func140, Try.ntmps140
      go_wp2
      go_ret
      exact ⟨rfl, rfl⟩
    · have d2 : decide (n ≤ 16) = false := decide_eq_false h2
      have hs : sideB n = false := decide_eq_false (fun h => h2 h.2)
      rw [hs]; clear hs h1 h2
      go_enter Try.func140, Try.ntmps140
      go_wp2
      go_ret
      exact ⟨rfl, rfl⟩
  · have d1 : decide (3 ≤ n) = false := decide_eq_false h1
    have hs : sideB n = false := decide_eq_false (fun h => h1 h.1)
    rw [hs]; clear hs h1
    go_enter Try.func140, Try.ntmps140
    go_wp2
    go_ret
    exact ⟨rfl, rfl⟩

theorem implIsValid (wd hi : Int) (wr : Bool) (w : World) : Calls Try.prog 98 #[.agg #[.int .i64 wd, .int .i64 hi, .bool wr]] w fun e w' => e = .returned (.bool (sidesB wd hi)) ∧ Below w.heap.size w w' := by
  have hsd : sidesB wd hi = (sideB wd && sideB hi) := rfl
  by_cases h1 : sideB wd = true
  · by_cases h2 : sideB hi = true
    · have hs : sidesB wd hi = true := by rw [hsd, h1, h2]; rfl
      obtain ⟨_, _, _, _, hm1, hm2⟩ := sides_mul hs
      rw [hs]; clear hs hsd
      go_enter Try.func98, Try.ntmps98
      go_wp2_with (go_at_call 140; refine (implSide _ _).mono ?_; rintro e w' ⟨rfl, rfl⟩)
      go_ret
      exact ⟨rfl, (Below.refl _ _).alloc (Nat.le_refl _) _⟩
    · replace h2 : sideB hi = false := by simpa using h2
      have hs : sidesB wd hi = false := by rw [hsd, h1, h2]; rfl
      rw [hs]; clear hs hsd
      go_enter Try.func98, Try.ntmps98
      go_wp2_with (go_at_call 140; refine (implSide _ _).mono ?_; rintro e w' ⟨rfl, rfl⟩)
      go_ret
      exact ⟨rfl, (Below.refl _ _).alloc (Nat.le_refl _) _⟩
  · replace h1 : sideB wd = false := by simpa using h1
    have hs : sidesB wd hi = false := by rw [hsd, h1]; rfl
    rw [hs]; clear hs hsd
    go_enter Try.func98, Try.ntmps98
    go_wp2_with (go_at_call 140; refine (implSide _ _).mono ?_; rintro e w' ⟨rfl, rfl⟩)
    go_ret
    exact ⟨rfl, (Below.refl _ _).alloc (Nat.le_refl _) _⟩

theorem implCount (wd hi : Int) (wr : Bool) (w : World) (h1 : 0 ≤ wd * hi) (h2 : wd * hi ≤ 256) : Calls Try.prog 99 #[.agg #[.int .i64 wd, .int .i64 hi, .bool wr]] w fun e w' => e = .returned (.int .i64 (wd * hi)) ∧ Below w.heap.size w w' := by
  go_enter Try.func99, Try.ntmps99
  go_wp2
  go_ret
  exact ⟨rfl, (Below.refl _ _).alloc (Nat.le_refl _) _⟩

theorem implShapeOf (wd hi : Int) (wr : Bool) (a b : Option Addr) (n m ca cb : Nat) (w : World) : Calls Try.prog 57 #[.agg #[.int .i64 wd, .int .i64 hi, .bool wr, .slice a n ca, .slice b m cb]] w fun e w' => e = .returned (.agg #[.int .i64 wd, .int .i64 hi, .bool wr]) ∧ Below w.heap.size w w' := by
  go_enter Try.func57, Try.ntmps57
  go_wp2
  exact bodyPost_ret (v := .agg #[.int .i64 wd, .int .i64 hi, .bool wr]) (by simp [results, Try.results57, go_sem]) rfl ⟨rfl, ((Below.refl _ _).alloc (Nat.le_refl _) _).alloc (by simp) _⟩

theorem impl_isSpeed (x : Nat) (w : World) : Calls Try.prog 101 #[.float .f32 x] w fun e w' => e = .returned (.bool (inB 1056964608 x)) ∧ w = w' := by
  rw [← inB_eq 1056964608 x (by decide +kernel)]
  rcases h1 : leB 0 x with _ | _
  · unfold leB at h1
    go_enter Try.func101, Try.ntmps101
    go_wp2
    go_ret
    exact ⟨rfl, rfl⟩
  · rcases h2 : leB x 1056964608 with _ | _
    · unfold leB at h1 h2
      go_enter Try.func101, Try.ntmps101
      go_wp2
      go_ret
      exact ⟨rfl, rfl⟩
    · unfold leB at h1 h2
      go_enter Try.func101, Try.ntmps101
      go_wp2
      go_ret
      exact ⟨rfl, rfl⟩

set_option maxHeartbeats 1000000 in
theorem implEach_isSpeed (a : Option Addr) (ca : Nat) (xs : List Nat) (w : World) (ha : RowV w a (fvals xs)) (hn : xs.length ≤ maxLen) :
    Calls Try.prog 100 #[.slice a xs.length ca, .func (.func 101) #[] #[]] w fun e w' => e = .returned (.bool (xs.all (inB 1056964608))) ∧ w = w' := by
  unfold maxLen at hn
  generalize hr : xs.all (inB 1056964608) = r at *
  have HR := Lib.hid hr
  clear hr
  generalize hlen : xs.length = n at hn ⊢
  have HL := Lib.hid hlen
  clear hlen
  go_enter Try.func100, Try.ntmps100
  go_wp2
  go_loop [6, 9] (fun _ i => ∃ k : Nat, k ≤ n ∧ i = .int .i64 k ∧ ∀ j (h : j < xs.length), j < k → inB 1056964608 xs[j] = true) (fun _ i => n - (intOf i).toNat)
  case atStart => exact ⟨0, Nat.zero_le _, rfl, fun j _ hj => by omega⟩
  case round =>
    obtain ⟨k, hk, rfl, hall⟩ := hrel
    have HA := Lib.hid hall
    clear hall
    by_cases hlt : k < n
    · have k1 : k < xs.length := by rw [HL.out]; exact hlt
      obtain ⟨ba, oa, rfl, c1⟩ := ha k _ (fvals_get k1)
      have hki : ((k : Nat) : Int) < (n : Int) := by omega
      by_cases hx : inB 1056964608 xs[k] = true
      · have HX := Lib.hid hx
        go_wp2_with (go_at_call 101; refine (impl_isSpeed _ _).mono ?_; rintro e w' ⟨rfl, rfl⟩)
        go_round
        case rel =>
          refine ⟨k + 1, by omega, by go_num, fun j hj hjk => ?_⟩
          by_cases e : j = k
          · subst e; exact HX.out
          · exact HA.out j hj (by omega)
        case measure => simp [intOf]; omega
      · have hx' : inB 1056964608 xs[k] = false := by simpa using hx
        have hr : r = false := by rw [← HR.out]; exact not_all k k1 hx'
        subst hr
        clear hx
        go_wp2_with (go_at_call 101; refine (impl_isSpeed _ _).mono ?_; rintro e w' ⟨rfl, rfl⟩)
        go_ret
        exact ⟨rfl, rfl⟩
    · have hr : r = true := by rw [← HR.out]; exact all_of fun j hj => HA.out j hj (by have := HL.out; omega)
      subst hr
      go_wp2
      go_ret
      exact ⟨rfl, rfl⟩

theorem impl_isLoss (x : Nat) (w : World) : Calls Try.prog 102 #[.float .f32 x] w fun e w' => e = .returned (.bool (inB 1065353216 x)) ∧ w = w' := by
  rw [← inB_eq 1065353216 x (by decide +kernel)]
  rcases h1 : leB 0 x with _ | _
  · unfold leB at h1
    go_enter Try.func102, Try.ntmps102
    go_wp2
    go_ret
    exact ⟨rfl, rfl⟩
  · rcases h2 : leB x 1065353216 with _ | _
    · unfold leB at h1 h2
      go_enter Try.func102, Try.ntmps102
      go_wp2
      go_ret
      exact ⟨rfl, rfl⟩
    · unfold leB at h1 h2
      go_enter Try.func102, Try.ntmps102
      go_wp2
      go_ret
      exact ⟨rfl, rfl⟩

set_option maxHeartbeats 1000000 in
theorem implEach_isLoss (a : Option Addr) (ca : Nat) (xs : List Nat) (w : World) (ha : RowV w a (fvals xs)) (hn : xs.length ≤ maxLen) :
    Calls Try.prog 100 #[.slice a xs.length ca, .func (.func 102) #[] #[]] w fun e w' => e = .returned (.bool (xs.all (inB 1065353216))) ∧ w = w' := by
  unfold maxLen at hn
  generalize hr : xs.all (inB 1065353216) = r at *
  have HR := Lib.hid hr
  clear hr
  generalize hlen : xs.length = n at hn ⊢
  have HL := Lib.hid hlen
  clear hlen
  go_enter Try.func100, Try.ntmps100
  go_wp2
  go_loop [6, 9] (fun _ i => ∃ k : Nat, k ≤ n ∧ i = .int .i64 k ∧ ∀ j (h : j < xs.length), j < k → inB 1065353216 xs[j] = true) (fun _ i => n - (intOf i).toNat)
  case atStart => exact ⟨0, Nat.zero_le _, rfl, fun j _ hj => by omega⟩
  case round =>
    obtain ⟨k, hk, rfl, hall⟩ := hrel
    have HA := Lib.hid hall
    clear hall
    by_cases hlt : k < n
    · have k1 : k < xs.length := by rw [HL.out]; exact hlt
      obtain ⟨ba, oa, rfl, c1⟩ := ha k _ (fvals_get k1)
      have hki : ((k : Nat) : Int) < (n : Int) := by omega
      by_cases hx : inB 1065353216 xs[k] = true
      · have HX := Lib.hid hx
        go_wp2_with (go_at_call 102; refine (impl_isLoss _ _).mono ?_; rintro e w' ⟨rfl, rfl⟩)
        go_round
        case rel =>
          refine ⟨k + 1, by omega, by go_num, fun j hj hjk => ?_⟩
          by_cases e : j = k
          · subst e; exact HX.out
          · exact HA.out j hj (by omega)
        case measure => simp [intOf]; omega
      · have hx' : inB 1065353216 xs[k] = false := by simpa using hx
        have hr : r = false := by rw [← HR.out]; exact not_all k k1 hx'
        subst hr
        clear hx
        go_wp2_with (go_at_call 102; refine (impl_isLoss _ _).mono ?_; rintro e w' ⟨rfl, rfl⟩)
        go_ret
        exact ⟨rfl, rfl⟩
    · have hr : r = true := by rw [← HR.out]; exact all_of fun j hj => HA.out j hj (by have := HL.out; omega)
      subst hr
      go_wp2
      go_ret
      exact ⟨rfl, rfl⟩

/-- the box of a sheet -/
def shCells (wd hi : Int) (wr : Bool) (a b : Option Addr) (n m ca cb : Nat) : Array Value := #[.int .i64 wd, .int .i64 hi, .bool wr, .slice a n ca, .slice b m cb]

set_option maxHeartbeats 4000000 in
theorem implValidSheet (wd hi : Int) (wr : Bool) (a b : Option Addr) (ca cb : Nat) (xs ys : List Nat) (w : World) (ha : RowV w a (fvals xs)) (hb : RowV w b (fvals ys)) (hx : xs.length ≤ maxLen) (hy : ys.length ≤ maxLen) :
    Calls Try.prog 56 #[.agg #[.int .i64 wd, .int .i64 hi, .bool wr, .slice a xs.length ca, .slice b ys.length cb]] w fun e w' => e = .returned (.bool (validB wd hi xs ys)) ∧ Below w.heap.size w w' := by
  have hv : validB wd hi xs ys = (sidesB wd hi && (decide ((xs.length : Int) = wd * hi) && (decide ((ys.length : Int) = wd * hi) && (xs.all (inB 1056964608) && ys.all (inB 1065353216))))) := rfl
  have HV := Lib.hid hv
  clear hv
  go_enter Try.func56, Try.ntmps56
  go_wp2_with fail
  refine (implShapeOf _ _ _ _ _ _ _ _ _ _).mono ?_
  rintro e w1 ⟨rfl, b1⟩
  have X := (Blk.new w _ _).later b1
  have B : Below w.heap.size w w1 := ((Below.refl w.heap.size w).alloc (Nat.le_refl _) _).trans (b1.mono (by simp))
  clear b1
  obtain ⟨xc, xf⟩ := X.open
  have HB := Lib.hid B; clear B
  go_wp2_with fail
  refine (implIsValid _ _ _ _).mono ?_
  rintro e w2 ⟨rfl, b2⟩
  replace X := (X.alloc _).later b2
  have Y := (Blk.new w1 _ _).later b2
  have B : Below w.heap.size w w2 := (HB.out.alloc HB.out.size _).trans (b2.mono (by have := HB.out.size; simp; omega))
  replace HB := Lib.hid B; clear B b2 xc xf
  obtain ⟨xc, xf⟩ := X.open
  obtain ⟨yc, yf⟩ := Y.open
  rcases hs : sidesB wd hi with _ | _
  · go_wp2
    go_ret
    exact ⟨by rw [HV.out, hs]; rfl, HB.out⟩
  · obtain ⟨_, _, _, _, hm1, hm2⟩ := sides_mul hs
    go_wp2_with fail
    refine (implCount _ _ _ _ (by omega) (by omega)).mono ?_
    rintro e w3 ⟨rfl, b3⟩
    replace X := X.later b3
    have B : Below w.heap.size w w3 := HB.out.trans (b3.mono HB.out.size)
    have hb3 := hb.later B
    have ha3 := ha.later B
    replace HB := Lib.hid B; clear B b3 xc xf yc yf Y
    obtain ⟨xc, xf⟩ := X.open
    generalize wd * hi = p at *
    by_cases e1 : (xs.length : Int) = p
    · have E1 := Lib.hid (decide_eq_true e1)
      have d1 : ((xs.length : Int) == p) = true := by simpa using e1
      by_cases e2 : (ys.length : Int) = p
      · have E2 := Lib.hid (decide_eq_true e2)
        have d2 : ((ys.length : Int) == p) = true := by simpa using e2
        clear e1 e2
        rcases h1 : xs.all (inB 1056964608) with _ | _
        · go_wp2_with (go_at_call 100; refine (implEach_isSpeed _ _ _ _ ha3 hx).mono ?_; rintro e w' ⟨rfl, rfl⟩)
          go_ret
          exact ⟨by rw [HV.out, hs, E1.out, E2.out, h1]; rfl, HB.out⟩
        · go_wp2_with (go_at_call 100; first | ((with_reducible refine (implEach_isSpeed _ _ _ _ ha3 hx).mono ?_); rintro e w' ⟨rfl, rfl⟩) | (refine (implEach_isLoss _ _ _ _ hb3 hy).mono ?_; rintro e w' ⟨rfl, rfl⟩))
          go_ret
          exact ⟨by rw [HV.out, hs, E1.out, E2.out, h1]; rfl, HB.out⟩
      · have E2 := Lib.hid (decide_eq_false e2)
        have d2 : ((ys.length : Int) == p) = false := by simpa using e2
        clear e1 e2
        go_wp2
        go_ret
        exact ⟨by rw [HV.out, hs, E1.out, E2.out]; rfl, HB.out⟩
    · have E1 := Lib.hid (decide_eq_false e1)
      have d1 : ((xs.length : Int) == p) = false := by simpa using e1
      clear e1
      go_wp2
      go_ret
      exact ⟨by rw [HV.out, hs, E1.out]; rfl, HB.out⟩

set_option maxHeartbeats 4000000 in
theorem specIs (g : Nat) (wd hi : Int) (wr : Bool) (a b : Option Addr) (ca cb : Nat) (xs ys : List Nat) (w : World) (hg : Blk w g #[.int .i64 wd, .int .i64 hi, .bool wr, .slice a xs.length ca, .slice b ys.length cb] 29) (ha : RowV w a (fvals xs)) (hb : RowV w b (fvals ys)) (hx : xs.length ≤ maxLen) (hy : ys.length ≤ maxLen) :
    Calls Try.prog 53 #[.pointer (some ⟨g, 0, none⟩)] w fun e w' => e = .returned (.bool (validB wd hi xs ys)) ∧ ∃ n, w' = w.drewN n := by
  have hv : validB wd hi xs ys = (sidesB wd hi && (decide ((xs.length : Int) = wd * hi) && (decide ((ys.length : Int) = wd * hi) && (xs.all (inB 1056964608) && ys.all (inB 1065353216))))) := rfl
  have HV := Lib.hid hv
  clear hv
  unfold maxLen at hx hy
  obtain ⟨gc, gf⟩ := hg.open
  have F0 : ∀ (x y : Int), x = y → (x != y) = false := fun x y h => by rw [h]; simp
  rcases hs : sidesB wd hi with _ | _
  · go_enter Try.func53, Try.ntmps53
    go_wp2
    go_quiet ((go_at_call 97; exact quietS (specSides _ _ _)))
    go_wp2
    go_ret
    exact ⟨by rw [HV.out, hs]; rfl, _, rfl⟩
  · obtain ⟨_, _, _, _, hm1, hm2⟩ := sides_mul hs
    by_cases e1 : (xs.length : Int) = wd * hi
    · by_cases e2 : (ys.length : Int) = wd * hi
      · have d1 : ((xs.length : Int) != wd * hi) = false := by rw [e1]; simp
        have d2 : ((ys.length : Int) != wd * hi) = false := by rw [e2]; simp
        have HV2 : Hid (validB wd hi xs ys = (xs.all (inB 1056964608) && ys.all (inB 1065353216))) := by
          exact Lib.hid (by rw [HV.out, hs, decide_eq_true e1, decide_eq_true e2]; rfl)
        have hl : xs.length = ys.length := by omega
        have HLL := Lib.hid hl
        clear e1 e2 HV hl F0
        go_enter Try.func53, Try.ntmps53
        go_wp2
        go_quiet ((go_at_call 97; exact quietS (specSides _ _ _)))
        go_wp2
        go_loopw [3] (fun i wr => ∃ k : Nat, k ≤ xs.length ∧ i = .int .i64 k ∧ (∀ j (h : j < xs.length) (h' : j < ys.length), j < k → inB 1056964608 xs[j] = true ∧ inB 1065353216 ys[j] = true) ∧ ∃ m, wr = w.drewN m) (fun i _ => xs.length - (intOf i).toNat)
        case atStart => exact ⟨0, Nat.zero_le _, rfl, fun j _ _ hj => by omega, _, rfl⟩
        case round =>
          obtain ⟨k, hk, rfl, hall, m, rfl⟩ := hrel
          have HA := Lib.hid hall
          clear hall
          by_cases hlt : k < xs.length
          · have k2 : k < ys.length := by rw [← HLL.out]; exact hlt
            obtain ⟨ba, oa, rfl, c1⟩ := ha k _ (fvals_get hlt)
            obtain ⟨bb, ob, rfl, c2⟩ := hb k _ (fvals_get k2)
            have hki : ((k : Nat) : Int) < (xs.length : Int) := by omega
            have hki2 : ((k : Nat) : Int) < (ys.length : Int) := by omega
            have bad : (inB 1056964608 xs[k] = false ∨ inB 1065353216 ys[k] = false) → validB wd hi xs ys = false := fun h => by
              rw [HV2.out]
              rcases h with h | h
              · rw [not_all k hlt h]; rfl
              · rw [not_all k k2 h, Bool.and_false]
            have BAD := Lib.hid bad
            clear bad
            rcases s0 : geB xs[k] 0 with _ | _
            · have hbad := BAD.out (.inl (by unfold inB; rw [s0]; rfl))
              have HBAD := Lib.hid hbad; clear hbad
              unfold geB at s0
              go_wp2
              go_ret
              exact ⟨by rw [HBAD.out]; rfl, _, rfl⟩
            · rcases s1 : gtB xs[k] 1056964608 with _ | _
              · rcases s2 : geB ys[k] 0 with _ | _
                · have hbad := BAD.out (.inr (by unfold inB; rw [s2]; rfl))
                  have HBAD := Lib.hid hbad; clear hbad
                  unfold geB at s0 s2
                  unfold gtB at s1
                  go_wp2
                  go_ret
                  exact ⟨by rw [HBAD.out]; rfl, _, rfl⟩
                · rcases s3 : gtB ys[k] 1065353216 with _ | _
                  · have HG : Hid (inB 1056964608 xs[k] = true ∧ inB 1065353216 ys[k] = true) := Lib.hid ⟨by unfold inB; rw [s0, s1]; rfl, by unfold inB; rw [s2, s3]; rfl⟩
                    unfold geB at s0 s2
                    unfold gtB at s1 s3
                    go_wp2
                    go_roundw
                    case rel =>
                      refine ⟨k + 1, by omega, by go_num, fun j hj hj2 hjk => ?_, _, rfl⟩
                      by_cases e : j = k
                      · subst e; exact HG.out
                      · exact HA.out j hj hj2 (by omega)
                    case measure => simp [intOf]; omega
                  · have hbad := BAD.out (.inr (by unfold inB; rw [s3, Bool.not_true, Bool.and_false]))
                    have HBAD := Lib.hid hbad; clear hbad
                    unfold geB at s0 s2
                    unfold gtB at s1 s3
                    go_wp2
                    go_ret
                    exact ⟨by rw [HBAD.out]; rfl, _, rfl⟩
              · have hbad := BAD.out (.inl (by unfold inB; rw [s1, Bool.not_true, Bool.and_false]))
                have HBAD := Lib.hid hbad; clear hbad
                unfold geB at s0
                unfold gtB at s1
                go_wp2
                go_ret
                exact ⟨by rw [HBAD.out]; rfl, _, rfl⟩
          · obtain rfl : k = xs.length := by omega
            have HT : Hid (validB wd hi xs ys = true) := Lib.hid (by
              have hl := HLL.out
              rw [HV2.out, all_of fun j hj => (HA.out j hj (hl ▸ hj) hj).1, all_of fun j hj => (HA.out j (hl ▸ hj) hj (hl ▸ hj)).2]; rfl)
            go_wp2
            go_ret
            exact ⟨by rw [HT.out]; rfl, _, rfl⟩
      · have d1 : ((xs.length : Int) != wd * hi) = false := by rw [e1]; simp
        have d2 : ((ys.length : Int) != wd * hi) = true := by simpa using e2
        have HV2 : Hid (validB wd hi xs ys = false) := Lib.hid (by rw [HV.out, decide_eq_false e2]; simp)
        clear e1 e2 HV F0
        go_enter Try.func53, Try.ntmps53
        go_wp2
        go_quiet ((go_at_call 97; exact quietS (specSides _ _ _)))
        go_wp2
        go_ret
        exact ⟨by rw [HV2.out]; rfl, _, rfl⟩
    · have d1 : ((xs.length : Int) != wd * hi) = true := by simpa using e1
      have HV2 : Hid (validB wd hi xs ys = false) := Lib.hid (by rw [HV.out, decide_eq_false e1]; simp)
      clear e1 HV F0
      go_enter Try.func53, Try.ntmps53
      go_wp2
      go_quiet ((go_at_call 97; exact quietS (specSides _ _ _)))
      go_wp2
      go_ret
      exact ⟨by rw [HV2.out]; rfl, _, rfl⟩

end Go.Proofs.Ytedfbaeajofmnaa

end
