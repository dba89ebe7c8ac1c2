/- Several texts in one: facts on floats, lists, memory and the functions that the theorems beside this text use. Conditions: none beyond those of each theorem. -/
import Derived.Test.YtedfbaeajofmnaaBu3
import Derived.Test.YtedfbaeajofmnaaBu2
import Derived.StillTailTactics
import Derived.IntWalk

set_option linter.unusedVariables false

section

namespace Go.Proofs.Ytedfbaeajofmnaa
open Go Ieee Go.RowKit

/-- a number is not a zero -/
def nzB (x : Nat) : Bool := FloatKind.f32.format.order x 0 != some .eq

def bordB (wb : Bool) (wd hi x y : Int) : Bool := !wb && (((x == 0 || x == wd - 1) || y == 0) || y == hi - 1)
def belowB (wb : Bool) (hi y : Int) : Bool := !wb && y == hi - 1
def besideB (wb : Bool) (wd x : Int) : Bool := !wb && x == wd - 1

/-- all numbers of a list in some cells are zeros -/
def zin (p : Int → Int → Bool) (wd : Int) (xs : List Nat) : Bool := (List.range xs.length).all fun i => !(nzB (xs.getD i 0) && p ((i : Int) % wd) ((i : Int) / wd))

theorem zin_true {p : Int → Int → Bool} {wd : Int} {xs : List Nat} (h : ∀ i (_ : i < xs.length), (nzB (xs.getD i 0) && p ((i : Int) % wd) ((i : Int) / wd)) = false) : zin p wd xs = true := by
  unfold zin
  rw [List.all_eq_true]
  intro i hi
  rw [h i (List.mem_range.1 hi)]; rfl

theorem zin_false {p : Int → Int → Bool} {wd : Int} {xs : List Nat} (i : Nat) (hi : i < xs.length) (h : (nzB (xs.getD i 0) && p ((i : Int) % wd) ((i : Int) / wd)) = true) : zin p wd xs = false := by
  rcases e : zin p wd xs with _ | _
  · rfl
  · unfold zin at e
    rw [List.all_eq_true] at e
    have := e i (List.mem_range.2 hi)
    rw [h] at this; cases this

theorem getD_get {xs : List Nat} {i : Nat} (h : i < xs.length) : xs.getD i 0 = xs[i] := by simp [h]

def fitsB (wd hi : Int) (wb : Bool) (e x y : List Nat) : Bool :=
  (decide ((e.length : Int) = wd * hi) && (decide ((x.length : Int) = wd * hi) && decide ((y.length : Int) = wd * hi))) && (zin (bordB wb wd hi) wd e && (zin (fun _ y => belowB wb hi y) wd x && zin (fun x _ => besideB wb wd x) wd y))

def fieldB (wd hi : Int) (wb : Bool) (sp lo e x y : List Nat) : Bool := validB wd hi sp lo && fitsB wd hi wb e x y

theorem implBorder (wd hi x y : Int) (wb : Bool) (w : World) (h1 : 3 ≤ wd) (h2 : wd ≤ 16) (h3 : 3 ≤ hi) (h4 : hi ≤ 16) :
    Calls Try.prog 105 #[.agg #[.int .i64 wd, .int .i64 hi, .bool wb], .agg #[.int .i64 x, .int .i64 y]] w fun e w' => e = .returned (.bool (bordB wb wd hi x y)) ∧ Below w.heap.size w w' := by
  have B := ((Below.refl w.heap.size w).alloc (Nat.le_refl _) (.cells #[.int .i64 wd, .int .i64 hi, .bool wb] 80)).alloc (by simp) (.cells #[.int .i64 x, .int .i64 y] 134)
  have HB := Lib.hid B; clear B
  unfold bordB
  cases wb with
  | true =>
    go_enter Try.func105, Try.ntmps105
    go_wp2
    go_ret
    exact ⟨rfl, HB.out⟩
  | false =>
    rcases e1 : (x == 0) with _ | _
    · rcases e2 : (x == wd - 1) with _ | _
      · rcases e3 : (y == 0) with _ | _
        · go_enter Try.func105, Try.ntmps105
          go_wp2
          go_ret
          exact ⟨rfl, HB.out⟩
        · go_enter Try.func105, Try.ntmps105
          go_wp2
          go_ret
          exact ⟨rfl, HB.out⟩
      · go_enter Try.func105, Try.ntmps105
        go_wp2
        go_ret
        exact ⟨rfl, HB.out⟩
    · go_enter Try.func105, Try.ntmps105
      go_wp2
      go_ret
      exact ⟨rfl, HB.out⟩

theorem specBorder (g : Nat) (wd hi x y : Int) (wb : Bool) (v3 v4 : Value) (w : World) (hg : Blk w g #[.int .i64 wd, .int .i64 hi, .bool wb, v3, v4] 29) (h1 : 3 ≤ wd) (h2 : wd ≤ 16) (h3 : 3 ≤ hi) (h4 : hi ≤ 16) :
    Calls Try.prog 116 #[.pointer (some ⟨g, 0, none⟩), .int .i64 x, .int .i64 y] w fun e w' => e = .returned (.bool (bordB wb wd hi x y)) ∧ w = w' := by
  obtain ⟨gc, gf⟩ := hg.open
  unfold bordB
  cases wb with
  | true =>
    go_enter Try.func116, Try.ntmps116
    go_wp2
    go_ret
    exact ⟨rfl, rfl⟩
  | false =>
    rcases e1 : (x == 0) with _ | _
    · rcases e2 : (x == wd - 1) with _ | _
      · rcases e3 : (y == 0) with _ | _
        · go_enter Try.func116, Try.ntmps116
          go_wp2
          go_ret
          exact ⟨rfl, rfl⟩
        · go_enter Try.func116, Try.ntmps116
          go_wp2
          go_ret
          exact ⟨rfl, rfl⟩
      · go_enter Try.func116, Try.ntmps116
        go_wp2
        go_ret
        exact ⟨rfl, rfl⟩
    · go_enter Try.func116, Try.ntmps116
      go_wp2
      go_ret
      exact ⟨rfl, rfl⟩

theorem implBelow (wd hi x y : Int) (wb : Bool) (w : World) (h3 : 3 ≤ hi) (h4 : hi ≤ 16) :
    Calls Try.prog 106 #[.agg #[.int .i64 wd, .int .i64 hi, .bool wb], .agg #[.int .i64 x, .int .i64 y]] w fun e w' => e = .returned (.bool (belowB wb hi y)) ∧ Below w.heap.size w w' := by
  have B := ((Below.refl w.heap.size w).alloc (Nat.le_refl _) (.cells #[.int .i64 wd, .int .i64 hi, .bool wb] 80)).alloc (by simp) (.cells #[.int .i64 x, .int .i64 y] 134)
  have HB := Lib.hid B; clear B
  unfold belowB
  cases wb with
  | true =>
    go_enter Try.func106, Try.ntmps106
    go_wp2
    go_ret
    exact ⟨rfl, HB.out⟩
  | false =>
    go_enter Try.func106, Try.ntmps106
    go_wp2
    go_ret
    exact ⟨rfl, HB.out⟩

theorem implBeside (wd hi x y : Int) (wb : Bool) (w : World) (h3 : 3 ≤ wd) (h4 : wd ≤ 16) :
    Calls Try.prog 107 #[.agg #[.int .i64 wd, .int .i64 hi, .bool wb], .agg #[.int .i64 x, .int .i64 y]] w fun e w' => e = .returned (.bool (besideB wb wd x)) ∧ Below w.heap.size w w' := by
  have B := ((Below.refl w.heap.size w).alloc (Nat.le_refl _) (.cells #[.int .i64 wd, .int .i64 hi, .bool wb] 80)).alloc (by simp) (.cells #[.int .i64 x, .int .i64 y] 134)
  have HB := Lib.hid B; clear B
  unfold besideB
  cases wb with
  | true =>
    go_enter Try.func107, Try.ntmps107
    go_wp2
    go_ret
    exact ⟨rfl, HB.out⟩
  | false =>
    go_enter Try.func107, Try.ntmps107
    go_wp2
    go_ret
    exact ⟨rfl, HB.out⟩

theorem implCellAt (wd hi i : Int) (wb : Bool) (w : World) (h1 : 3 ≤ wd) (h2 : wd ≤ 16) (h3 : 0 ≤ i) (h4 : i ≤ 9223372036854775807) :
    Calls Try.prog 123 #[.agg #[.int .i64 wd, .int .i64 hi, .bool wb], .int .i64 i] w fun e w' => e = .returned (.agg #[.int .i64 (i % wd), .int .i64 (i / wd)]) ∧ Below w.heap.size w w' := by
  have hne : (wd == 0) = false := by simp; omega
  go_enter Try.func123, Try.ntmps123
  go_wp2_with fail
  have hz : wd ≠ 0 := by omega
  have X := (Blk.new w #[.int .i64 wd, .int .i64 hi, .bool wb] 80).alloc (.cells #[.int .i64 0, .int .i64 0] 134)
  have Y := Blk.new1 w (.cells #[.int .i64 wd, .int .i64 hi, .bool wb] 80) #[.int .i64 0, .int .i64 0] 134
  have B := ((Below.refl w.heap.size w).alloc (Nat.le_refl _) (.cells #[.int .i64 wd, .int .i64 hi, .bool wb] 80)).alloc (by simp) (.cells #[.int .i64 0, .int .i64 0] 134)
  have HB := Lib.hid B; clear B
  generalize ((w.alloc (.cells #[.int .i64 wd, .int .i64 hi, .bool wb] 80)).alloc (.cells #[.int .i64 0, .int .i64 0] 134)) = u at *
  obtain ⟨xc, xf⟩ := X.open
  obtain ⟨yc, yf⟩ := Y.open
  have hw : IntKind.i64.wrap (i / wd) = i / wd := IntWalk.i64_in _ (by
    have h5 : 0 ≤ i / wd := Int.ediv_nonneg h3 (by omega)
    have h6 : i / wd ≤ i := Int.ediv_le_self _ h3
    omega)
  have HW := Lib.hid hw; clear hw
  have HR : Hid (i.tmod wd = i % wd ∧ IntKind.i64.wrap (i.tdiv wd) = i / wd) := Lib.hid ⟨Int.tmod_eq_emod_of_nonneg h3, by rw [Int.tdiv_eq_ediv_of_nonneg h3]; exact HW.out⟩
  go_region_held3 (fun w' => (∀ i, w'.cell? ⟨w.heap.size, i, none⟩ = (#[.int .i64 wd, .int .i64 hi, .bool wb] : Array Value)[i]?)) (first | exact xc | exact ((X.setOther (p := ⟨w.heap.size + 1, 0, none⟩) (by simp) _).setOther (p := ⟨w.heap.size + 1, 1, none⟩) (by simp) _).open.1) (fail)
  go_wp2
  exact bodyPost_ret (v := .agg #[.int .i64 (i % wd), .int .i64 (i / wd)]) (by simp [results, Try.results123, go_sem, yc]; exact HR.out) rfl ⟨rfl, ((HB.out.setCell (p := ⟨w.heap.size + 1, 0, none⟩) (by simp) _).setCell (p := ⟨w.heap.size + 1, 1, none⟩) (by simp) _).drew⟩

set_option maxHeartbeats 2000000 in
theorem implZero_border (wd hi : Int) (wb : Bool) (a : Option Addr) (ca : Nat) (xs : List Nat) (w : World) (h1 : 3 ≤ wd) (h2 : wd ≤ 16) (h3 : 3 ≤ hi) (h4 : hi ≤ 16) (ha : RowV w a (fvals xs)) (hn : xs.length ≤ maxLen) :
    Calls Try.prog 104 #[.agg #[.int .i64 wd, .int .i64 hi, .bool wb], .slice a xs.length ca, .func (.func 105) #[.agg #[.int .i64 wd, .int .i64 hi, .bool wb]] #[]] w fun e w' => e = .returned (.bool (zin (bordB wb wd hi) wd xs)) ∧ Below w.heap.size w w' := by
  unfold maxLen at hn
  have B := (Below.refl w.heap.size w).alloc (Nat.le_refl _) (.cells #[.int .i64 wd, .int .i64 hi, .bool wb] 80)
  have X := Blk.new w #[.int .i64 wd, .int .i64 hi, .bool wb] 80
  generalize hr : zin (bordB wb wd hi) wd xs = r at *
  have HR := Lib.hid hr
  clear hr
  generalize hlen : xs.length = n at hn ⊢
  have HL := Lib.hid hlen
  clear hlen
  go_enter Try.func104, Try.ntmps104
  go_wp2_with fail
  generalize w.alloc (.cells #[.int .i64 wd, .int .i64 hi, .bool wb] 80) = u at *
  have HB := Lib.hid B; clear B
  go_loopw [7, 8, 11] (fun _ _ i wr => ∃ k : Nat, k ≤ n ∧ i = .int .i64 k ∧ (∀ j (_ : j < xs.length), j < k → (nzB (xs.getD j 0) && ((bordB wb wd hi)) ((j : Int) % wd) ((j : Int) / wd)) = false) ∧ Below u.heap.size u wr) (fun _ _ i _ => n - (intOf i).toNat)
  case atStart => exact ⟨0, Nat.zero_le _, rfl, fun j _ hj => by omega, Below.refl _ _⟩
  case round =>
    skip
    obtain ⟨k, hk, rfl, hall, hb⟩ := hrel
    have HA := Lib.hid hall
    have HW := Lib.hid (HB.out.trans (hb.mono HB.out.size))
    have XX := X.below hb X.lt
    have hb' := Lib.hid hb
    clear hall hb
    obtain ⟨xc, xf⟩ := XX.open
    by_cases hlt : k < n
    · have k1 : k < xs.length := by rw [HL.out]; exact hlt
      obtain ⟨ba, oa, rfl, c0⟩ := ha k _ (fvals_get k1)
      have c1 : wr.cell? ⟨ba, oa + k, none⟩ = some (.float .f32 xs[k]) := by rw [Below.cell HW.out (p := ⟨ba, oa + k, none⟩) (lt_of_cell c0)]; exact c0
      have HG := Lib.hid (getD_get k1)
      have hki : ((k : Nat) : Int) < (n : Int) := by omega
      clear c0
      rcases hz : nzB xs[k] with _ | _
      · have HZ : Hid ((nzB (xs.getD k 0) && ((bordB wb wd hi)) ((k : Int) % wd) ((k : Int) / wd)) = false) := Lib.hid (by rw [HG.out, hz]; rfl)
        unfold nzB at hz
        go_wp2
        go_roundw
        case rel =>
          refine ⟨k + 1, by omega, by go_num, fun j hj hjk => ?_, hb'.out⟩
          by_cases e : j = k
          · subst e; exact HZ.out
          · exact HA.out j hj (by omega)
        case measure => simp [intOf]; omega
      · have HZ := Lib.hid hz
        unfold nzB at hz
        go_wp2_with fail
        refine (implCellAt _ _ _ _ _ h1 h2 (by omega) (by omega)).mono ?_
        rintro e w2 ⟨rfl, b2⟩
        go_wp2_with fail
        refine (implBorder _ _ _ _ _ _ h1 h2 h3 h4).mono ?_
        rintro e w3 ⟨rfl, b3⟩
        have HB2 := Lib.hid (hb'.out.trans ((b2.trans (b3.mono b2.size)).mono hb'.out.size))
        clear b2 b3
        rcases hp : ((bordB wb wd hi)) ((k : Int) % wd) ((k : Int) / wd) with _ | _
        · have HZ2 : Hid ((nzB (xs.getD k 0) && ((bordB wb wd hi)) ((k : Int) % wd) ((k : Int) / wd)) = false) := Lib.hid (by rw [hp, Bool.and_false])
          try dsimp only at hp
          go_wp2
          go_roundw
          case rel =>
            refine ⟨k + 1, by omega, by go_num, fun j hj hjk => ?_, HB2.out⟩
            by_cases e : j = k
            · subst e; exact HZ2.out
            · exact HA.out j hj (by omega)
          case measure => simp [intOf]; omega
        · have hrr : r = false := by rw [← HR.out]; exact zin_false k k1 (by rw [HG.out, HZ.out]; exact hp)
          subst hrr
          try dsimp only at hp
          go_wp2
          go_ret
          exact ⟨rfl, HB.out.trans (HB2.out.mono HB.out.size)⟩
    · have hrr : r = true := by rw [← HR.out]; exact zin_true fun j hj => HA.out j hj (by have := HL.out; omega)
      subst hrr
      go_wp2
      go_ret
      exact ⟨rfl, HW.out⟩

set_option maxHeartbeats 2000000 in
theorem implZero_below (wd hi : Int) (wb : Bool) (a : Option Addr) (ca : Nat) (xs : List Nat) (w : World) (h1 : 3 ≤ wd) (h2 : wd ≤ 16) (h3 : 3 ≤ hi) (h4 : hi ≤ 16) (ha : RowV w a (fvals xs)) (hn : xs.length ≤ maxLen) :
    Calls Try.prog 104 #[.agg #[.int .i64 wd, .int .i64 hi, .bool wb], .slice a xs.length ca, .func (.func 106) #[.agg #[.int .i64 wd, .int .i64 hi, .bool wb]] #[]] w fun e w' => e = .returned (.bool (zin (fun _ y => belowB wb hi y) wd xs)) ∧ Below w.heap.size w w' := by
  unfold maxLen at hn
  have B := (Below.refl w.heap.size w).alloc (Nat.le_refl _) (.cells #[.int .i64 wd, .int .i64 hi, .bool wb] 80)
  have X := Blk.new w #[.int .i64 wd, .int .i64 hi, .bool wb] 80
  generalize hr : zin (fun _ y => belowB wb hi y) wd xs = r at *
  have HR := Lib.hid hr
  clear hr
  generalize hlen : xs.length = n at hn ⊢
  have HL := Lib.hid hlen
  clear hlen
  go_enter Try.func104, Try.ntmps104
  go_wp2_with fail
  generalize w.alloc (.cells #[.int .i64 wd, .int .i64 hi, .bool wb] 80) = u at *
  have HB := Lib.hid B; clear B
  go_loopw [7, 8, 11] (fun _ _ i wr => ∃ k : Nat, k ≤ n ∧ i = .int .i64 k ∧ (∀ j (_ : j < xs.length), j < k → (nzB (xs.getD j 0) && ((fun _ y => belowB wb hi y)) ((j : Int) % wd) ((j : Int) / wd)) = false) ∧ Below u.heap.size u wr) (fun _ _ i _ => n - (intOf i).toNat)
  case atStart => exact ⟨0, Nat.zero_le _, rfl, fun j _ hj => by omega, Below.refl _ _⟩
  case round =>
    skip
    obtain ⟨k, hk, rfl, hall, hb⟩ := hrel
    have HA := Lib.hid hall
    have HW := Lib.hid (HB.out.trans (hb.mono HB.out.size))
    have XX := X.below hb X.lt
    have hb' := Lib.hid hb
    clear hall hb
    obtain ⟨xc, xf⟩ := XX.open
    by_cases hlt : k < n
    · have k1 : k < xs.length := by rw [HL.out]; exact hlt
      obtain ⟨ba, oa, rfl, c0⟩ := ha k _ (fvals_get k1)
      have c1 : wr.cell? ⟨ba, oa + k, none⟩ = some (.float .f32 xs[k]) := by rw [Below.cell HW.out (p := ⟨ba, oa + k, none⟩) (lt_of_cell c0)]; exact c0
      have HG := Lib.hid (getD_get k1)
      have hki : ((k : Nat) : Int) < (n : Int) := by omega
      clear c0
      rcases hz : nzB xs[k] with _ | _
      · have HZ : Hid ((nzB (xs.getD k 0) && ((fun _ y => belowB wb hi y)) ((k : Int) % wd) ((k : Int) / wd)) = false) := Lib.hid (by rw [HG.out, hz]; rfl)
        unfold nzB at hz
        go_wp2
        go_roundw
        case rel =>
          refine ⟨k + 1, by omega, by go_num, fun j hj hjk => ?_, hb'.out⟩
          by_cases e : j = k
          · subst e; exact HZ.out
          · exact HA.out j hj (by omega)
        case measure => simp [intOf]; omega
      · have HZ := Lib.hid hz
        unfold nzB at hz
        go_wp2_with fail
        refine (implCellAt _ _ _ _ _ h1 h2 (by omega) (by omega)).mono ?_
        rintro e w2 ⟨rfl, b2⟩
        go_wp2_with fail
        refine (implBelow _ _ _ _ _ _ h3 h4).mono ?_
        rintro e w3 ⟨rfl, b3⟩
        have HB2 := Lib.hid (hb'.out.trans ((b2.trans (b3.mono b2.size)).mono hb'.out.size))
        clear b2 b3
        rcases hp : ((fun _ y => belowB wb hi y)) ((k : Int) % wd) ((k : Int) / wd) with _ | _
        · have HZ2 : Hid ((nzB (xs.getD k 0) && ((fun _ y => belowB wb hi y)) ((k : Int) % wd) ((k : Int) / wd)) = false) := Lib.hid (by rw [hp, Bool.and_false])
          try dsimp only at hp
          go_wp2
          go_roundw
          case rel =>
            refine ⟨k + 1, by omega, by go_num, fun j hj hjk => ?_, HB2.out⟩
            by_cases e : j = k
            · subst e; exact HZ2.out
            · exact HA.out j hj (by omega)
          case measure => simp [intOf]; omega
        · have hrr : r = false := by rw [← HR.out]; exact zin_false k k1 (by rw [HG.out, HZ.out]; exact hp)
          subst hrr
          try dsimp only at hp
          go_wp2
          go_ret
          exact ⟨rfl, HB.out.trans (HB2.out.mono HB.out.size)⟩
    · have hrr : r = true := by rw [← HR.out]; exact zin_true fun j hj => HA.out j hj (by have := HL.out; omega)
      subst hrr
      go_wp2
      go_ret
      exact ⟨rfl, HW.out⟩

set_option maxHeartbeats 2000000 in
theorem implZero_beside (wd hi : Int) (wb : Bool) (a : Option Addr) (ca : Nat) (xs : List Nat) (w : World) (h1 : 3 ≤ wd) (h2 : wd ≤ 16) (h3 : 3 ≤ hi) (h4 : hi ≤ 16) (ha : RowV w a (fvals xs)) (hn : xs.length ≤ maxLen) :
    Calls Try.prog 104 #[.agg #[.int .i64 wd, .int .i64 hi, .bool wb], .slice a xs.length ca, .func (.func 107) #[.agg #[.int .i64 wd, .int .i64 hi, .bool wb]] #[]] w fun e w' => e = .returned (.bool (zin (fun x _ => besideB wb wd x) wd xs)) ∧ Below w.heap.size w w' := by
  unfold maxLen at hn
  have B := (Below.refl w.heap.size w).alloc (Nat.le_refl _) (.cells #[.int .i64 wd, .int .i64 hi, .bool wb] 80)
  have X := Blk.new w #[.int .i64 wd, .int .i64 hi, .bool wb] 80
  generalize hr : zin (fun x _ => besideB wb wd x) wd xs = r at *
  have HR := Lib.hid hr
  clear hr
  generalize hlen : xs.length = n at hn ⊢
  have HL := Lib.hid hlen
  clear hlen
  go_enter Try.func104, Try.ntmps104
  go_wp2_with fail
  generalize w.alloc (.cells #[.int .i64 wd, .int .i64 hi, .bool wb] 80) = u at *
  have HB := Lib.hid B; clear B
  go_loopw [7, 8, 11] (fun _ _ i wr => ∃ k : Nat, k ≤ n ∧ i = .int .i64 k ∧ (∀ j (_ : j < xs.length), j < k → (nzB (xs.getD j 0) && ((fun x _ => besideB wb wd x)) ((j : Int) % wd) ((j : Int) / wd)) = false) ∧ Below u.heap.size u wr) (fun _ _ i _ => n - (intOf i).toNat)
  case atStart => exact ⟨0, Nat.zero_le _, rfl, fun j _ hj => by omega, Below.refl _ _⟩
  case round =>
    skip
    obtain ⟨k, hk, rfl, hall, hb⟩ := hrel
    have HA := Lib.hid hall
    have HW := Lib.hid (HB.out.trans (hb.mono HB.out.size))
    have XX := X.below hb X.lt
    have hb' := Lib.hid hb
    clear hall hb
    obtain ⟨xc, xf⟩ := XX.open
    by_cases hlt : k < n
    · have k1 : k < xs.length := by rw [HL.out]; exact hlt
      obtain ⟨ba, oa, rfl, c0⟩ := ha k _ (fvals_get k1)
      have c1 : wr.cell? ⟨ba, oa + k, none⟩ = some (.float .f32 xs[k]) := by rw [Below.cell HW.out (p := ⟨ba, oa + k, none⟩) (lt_of_cell c0)]; exact c0
      have HG := Lib.hid (getD_get k1)
      have hki : ((k : Nat) : Int) < (n : Int) := by omega
      clear c0
      rcases hz : nzB xs[k] with _ | _
      · have HZ : Hid ((nzB (xs.getD k 0) && ((fun x _ => besideB wb wd x)) ((k : Int) % wd) ((k : Int) / wd)) = false) := Lib.hid (by rw [HG.out, hz]; rfl)
        unfold nzB at hz
        go_wp2
        go_roundw
        case rel =>
          refine ⟨k + 1, by omega, by go_num, fun j hj hjk => ?_, hb'.out⟩
          by_cases e : j = k
          · subst e; exact HZ.out
          · exact HA.out j hj (by omega)
        case measure => simp [intOf]; omega
      · have HZ := Lib.hid hz
        unfold nzB at hz
        go_wp2_with fail
        refine (implCellAt _ _ _ _ _ h1 h2 (by omega) (by omega)).mono ?_
        rintro e w2 ⟨rfl, b2⟩
        go_wp2_with fail
        refine (implBeside _ _ _ _ _ _ h1 h2).mono ?_
        rintro e w3 ⟨rfl, b3⟩
        have HB2 := Lib.hid (hb'.out.trans ((b2.trans (b3.mono b2.size)).mono hb'.out.size))
        clear b2 b3
        rcases hp : ((fun x _ => besideB wb wd x)) ((k : Int) % wd) ((k : Int) / wd) with _ | _
        · have HZ2 : Hid ((nzB (xs.getD k 0) && ((fun x _ => besideB wb wd x)) ((k : Int) % wd) ((k : Int) / wd)) = false) := Lib.hid (by rw [hp, Bool.and_false])
          try dsimp only at hp
          go_wp2
          go_roundw
          case rel =>
            refine ⟨k + 1, by omega, by go_num, fun j hj hjk => ?_, HB2.out⟩
            by_cases e : j = k
            · subst e; exact HZ2.out
            · exact HA.out j hj (by omega)
          case measure => simp [intOf]; omega
        · have hrr : r = false := by rw [← HR.out]; exact zin_false k k1 (by rw [HG.out, HZ.out]; exact hp)
          subst hrr
          try dsimp only at hp
          go_wp2
          go_ret
          exact ⟨rfl, HB.out.trans (HB2.out.mono HB.out.size)⟩
    · have hrr : r = true := by rw [← HR.out]; exact zin_true fun j hj => HA.out j hj (by have := HL.out; omega)
      subst hrr
      go_wp2
      go_ret
      exact ⟨rfl, HW.out⟩
end Go.Proofs.Ytedfbaeajofmnaa

end

section

namespace Go.Proofs.Ytedfbaeajofmnaa
open Go Ieee Go.RowKit
set_option linter.unusedVariables false

theorem implSizesOf (a0 a1 a2 : Option Addr) (n0 n1 n2 c0 c1 c2 : Nat) (w : World) : Calls Try.prog 77 #[.agg #[.slice a0 n0 c0, .slice a1 n1 c1, .slice a2 n2 c2]] w fun e w' => e = .returned (.agg #[.int .i64 n0, .int .i64 n1, .int .i64 n2]) ∧ Below w.heap.size w w' := by
  go_enter Try.func77, Try.ntmps77
  go_wp2
  exact bodyPost_ret (v := .agg #[.int .i64 n0, .int .i64 n1, .int .i64 n2]) (by simp [results, Try.results77, go_sem]) rfl ⟨rfl, ((Below.refl _ _).alloc (Nat.le_refl _) _).alloc (by simp) _⟩

set_option maxHeartbeats 4000000 in
theorem implIsField (wd hi : Int) (wb : Bool) (a b : Option Addr) (ca cb : Nat) (xs ys : List Nat) (a0 a1 a2 : Option Addr) (c0 c1 c2 : Nat) (e x y : List Nat) (w : World) (ha : RowV w a (fvals xs)) (hb : RowV w b (fvals ys)) (hx : xs.length ≤ maxLen) (hy : ys.length ≤ maxLen) (h0 : RowV w a0 (fvals e)) (h1 : RowV w a1 (fvals x)) (h2 : RowV w a2 (fvals y)) (m0 : e.length ≤ maxLen) (m1 : x.length ≤ maxLen) (m2 : y.length ≤ maxLen) :
    Calls Try.prog 62 #[.agg #[.int .i64 wd, .int .i64 hi, .bool wb, .slice a xs.length ca, .slice b ys.length cb], .agg #[.slice a0 e.length c0, .slice a1 x.length c1, .slice a2 y.length c2]] w fun r w' => r = .returned (.bool (fieldB wd hi wb xs ys e x y)) ∧ Below w.heap.size w w' := by
  have hv : fieldB wd hi wb xs ys e x y = (validB wd hi xs ys && fitsB wd hi wb e x y) := rfl
  have HV := Lib.hid hv; clear hv
  go_enter Try.func62, Try.ntmps62
  go_wp2_with fail
  have X := (Blk.new w #[.int .i64 wd, .int .i64 hi, .bool wb, .slice a xs.length ca, .slice b ys.length cb] 29).alloc (.cells #[.slice a0 e.length c0, .slice a1 x.length c1, .slice a2 y.length c2] 38)
  have Y := Blk.new1 w (.cells #[.int .i64 wd, .int .i64 hi, .bool wb, .slice a xs.length ca, .slice b ys.length cb] 29) #[.slice a0 e.length c0, .slice a1 x.length c1, .slice a2 y.length c2] 38
  have HB : Hid (Below w.heap.size w ((w.alloc (.cells #[.int .i64 wd, .int .i64 hi, .bool wb, .slice a xs.length ca, .slice b ys.length cb] 29)).alloc (.cells #[.slice a0 e.length c0, .slice a1 x.length c1, .slice a2 y.length c2] 38))) := Lib.hid (((Below.refl w.heap.size w).alloc (Nat.le_refl _) _).alloc (by simp) _)
  generalize ((w.alloc (.cells #[.int .i64 wd, .int .i64 hi, .bool wb, .slice a xs.length ca, .slice b ys.length cb] 29)).alloc (.cells #[.slice a0 e.length c0, .slice a1 x.length c1, .slice a2 y.length c2] 38)) = u0 at *
  refine (implValidSheet _ _ _ _ _ _ _ _ _ _ (ha.later HB.out) (hb.later HB.out) hx hy).mono ?_
  rintro r u1 ⟨rfl, q⟩
  replace X := X.later q
  replace Y := Y.later q
  replace HB := Lib.hid (HB.out.trans (q.mono HB.out.size))
  clear q
  obtain ⟨xc, xf⟩ := X.open; obtain ⟨yc, yf⟩ := Y.open
  rcases hs : validB wd hi xs ys with _ | _
  · go_wp2
    go_ret
    exact ⟨by rw [HV.out, hs]; rfl, HB.out⟩
  have hsd : sidesB wd hi = true := by
    unfold validB at hs
    cases h : sidesB wd hi
    · rw [h] at hs; cases hs
    · rfl
  have HS := Lib.hid hsd
  obtain ⟨s1, s2, s3, s4, hm1, hm2⟩ := sides_mul hsd
  clear hsd
  go_wp2_with fail
  refine (implShapeOf _ _ _ _ _ _ _ _ _ _).mono ?_
  rintro r u2 ⟨rfl, q⟩
  replace X := X.later q
  replace Y := Y.later q
  replace HB := Lib.hid (HB.out.trans (q.mono HB.out.size))
  clear q xc xf yc yf
  obtain ⟨xc, xf⟩ := X.open; obtain ⟨yc, yf⟩ := Y.open
  go_wp2_with fail
  have Z := Blk.new u2 #[.int .i64 wd, .int .i64 hi, .bool wb] 80
  have q : Below u2.heap.size u2 (u2.alloc (.cells #[.int .i64 wd, .int .i64 hi, .bool wb] 80)) := (Below.refl _ _).alloc (Nat.le_refl _) _
  replace X := X.later q
  replace Y := Y.later q
  replace HB := Lib.hid (HB.out.trans (q.mono HB.out.size))
  generalize u2.alloc (.cells #[.int .i64 wd, .int .i64 hi, .bool wb] 80) = u3 at *
  clear q xc xf yc yf
  refine (implCount _ _ _ _ (by omega) (by omega)).mono ?_
  rintro r u4 ⟨rfl, q⟩
  replace X := X.later q
  replace Y := Y.later q
  replace Z := Z.later q
  replace HB := Lib.hid (HB.out.trans (q.mono HB.out.size))
  clear q
  obtain ⟨yc, yf⟩ := Y.open; obtain ⟨zc, zf⟩ := Z.open
  go_wp2_with fail
  refine (implSizesOf _ _ _ _ _ _ _ _ _ _).mono ?_
  rintro r u5 ⟨rfl, q⟩
  replace X := X.later q
  replace Y := Y.later q
  replace Z := Z.later q
  replace HB := Lib.hid (HB.out.trans (q.mono HB.out.size))
  clear q yc yf zc zf
  obtain ⟨yc, yf⟩ := Y.open; obtain ⟨zc, zf⟩ := Z.open
  have hf : fitsB wd hi wb e x y = ((decide ((e.length : Int) = wd * hi) && (decide ((x.length : Int) = wd * hi) && decide ((y.length : Int) = wd * hi))) && (zin (bordB wb wd hi) wd e && (zin (fun _ y => belowB wb hi y) wd x && zin (fun x _ => besideB wb wd x) wd y))) := rfl
  have HF := Lib.hid hf; clear hf
  generalize wd * hi = p at *
  by_cases e0 : (e.length : Int) = p
  · have E0 := Lib.hid (decide_eq_true e0)
    have d0 : ((e.length : Int) == p) = true := by simpa using e0
    by_cases e1 : (x.length : Int) = p
    · have E1 := Lib.hid (decide_eq_true e1)
      have d1 : ((x.length : Int) == p) = true := by simpa using e1
      by_cases e2 : (y.length : Int) = p
      · have E2 := Lib.hid (decide_eq_true e2)
        have d2 : ((y.length : Int) == p) = true := by simpa using e2
        clear e0 e1 e2
        rcases z0 : zin (bordB wb wd hi) wd e with _ | _
        · skip
          go_wp2_with fail
          refine (implZero_border _ _ _ _ _ _ _ s1 s2 s3 s4 (h0.later HB.out) m0).mono ?_
          rw [z0]
          rintro r v0 ⟨rfl, q⟩
          have ZZ0 := Lib.hid z0; clear z0
          replace X := X.later q
          replace Y := Y.later q
          replace Z := Z.later q
          replace HB := Lib.hid (HB.out.trans (q.mono HB.out.size))
          clear q yc yf zc zf
          obtain ⟨yc, yf⟩ := Y.open; obtain ⟨zc, zf⟩ := Z.open
          go_wp2
          go_ret
          exact ⟨by rw [HV.out, hs, HF.out, E0.out, E1.out, E2.out, ZZ0.out]; rfl, HB.out⟩
        · skip
          go_wp2_with fail
          refine (implZero_border _ _ _ _ _ _ _ s1 s2 s3 s4 (h0.later HB.out) m0).mono ?_
          rw [z0]
          rintro r v0 ⟨rfl, q⟩
          have ZZ0 := Lib.hid z0; clear z0
          replace X := X.later q
          replace Y := Y.later q
          replace Z := Z.later q
          replace HB := Lib.hid (HB.out.trans (q.mono HB.out.size))
          clear q yc yf zc zf
          obtain ⟨yc, yf⟩ := Y.open; obtain ⟨zc, zf⟩ := Z.open
          rcases z1 : zin (fun _ y => belowB wb hi y) wd x with _ | _
          · skip
            go_wp2_with fail
            refine (implZero_below _ _ _ _ _ _ _ s1 s2 s3 s4 (h1.later HB.out) m1).mono ?_
            rw [z1]
            rintro r v1 ⟨rfl, q⟩
            have ZZ1 := Lib.hid z1; clear z1
            replace X := X.later q
            replace Y := Y.later q
            replace Z := Z.later q
            replace HB := Lib.hid (HB.out.trans (q.mono HB.out.size))
            clear q yc yf zc zf
            obtain ⟨yc, yf⟩ := Y.open; obtain ⟨zc, zf⟩ := Z.open
            go_wp2
            go_ret
            exact ⟨by rw [HV.out, hs, HF.out, E0.out, E1.out, E2.out, ZZ0.out, ZZ1.out]; rfl, HB.out⟩
          · skip
            go_wp2_with fail
            refine (implZero_below _ _ _ _ _ _ _ s1 s2 s3 s4 (h1.later HB.out) m1).mono ?_
            rw [z1]
            rintro r v1 ⟨rfl, q⟩
            have ZZ1 := Lib.hid z1; clear z1
            replace X := X.later q
            replace Y := Y.later q
            replace Z := Z.later q
            replace HB := Lib.hid (HB.out.trans (q.mono HB.out.size))
            clear q yc yf zc zf
            obtain ⟨yc, yf⟩ := Y.open; obtain ⟨zc, zf⟩ := Z.open
            rcases z2 : zin (fun x _ => besideB wb wd x) wd y with _ | _
            · skip
              go_wp2_with fail
              refine (implZero_beside _ _ _ _ _ _ _ s1 s2 s3 s4 (h2.later HB.out) m2).mono ?_
              rw [z2]
              rintro r v2 ⟨rfl, q⟩
              have ZZ2 := Lib.hid z2; clear z2
              replace X := X.later q
              replace Y := Y.later q
              replace Z := Z.later q
              replace HB := Lib.hid (HB.out.trans (q.mono HB.out.size))
              clear q yc yf zc zf
              obtain ⟨yc, yf⟩ := Y.open; obtain ⟨zc, zf⟩ := Z.open
              go_wp2
              go_ret
              exact ⟨by rw [HV.out, hs, HF.out, E0.out, E1.out, E2.out, ZZ0.out, ZZ1.out, ZZ2.out]; rfl, HB.out⟩
            · skip
              go_wp2_with fail
              refine (implZero_beside _ _ _ _ _ _ _ s1 s2 s3 s4 (h2.later HB.out) m2).mono ?_
              rw [z2]
              rintro r v2 ⟨rfl, q⟩
              have ZZ2 := Lib.hid z2; clear z2
              replace X := X.later q
              replace Y := Y.later q
              replace Z := Z.later q
              replace HB := Lib.hid (HB.out.trans (q.mono HB.out.size))
              clear q yc yf zc zf
              obtain ⟨yc, yf⟩ := Y.open; obtain ⟨zc, zf⟩ := Z.open
              go_wp2
              go_ret
              exact ⟨by rw [HV.out, hs, HF.out, E0.out, E1.out, E2.out, ZZ0.out, ZZ1.out, ZZ2.out]; rfl, HB.out⟩
      · have E2 := Lib.hid (decide_eq_false e2)
        have d2 : ((y.length : Int) == p) = false := by simpa using e2
        clear e0 e1 e2
        go_wp2
        go_ret
        exact ⟨by rw [HV.out, hs, HF.out, E0.out, E1.out, E2.out]; rfl, HB.out⟩
    · have E1 := Lib.hid (decide_eq_false e1)
      have d1 : ((x.length : Int) == p) = false := by simpa using e1
      clear e0 e1
      go_wp2
      go_ret
      exact ⟨by rw [HV.out, hs, HF.out, E0.out, E1.out]; rfl, HB.out⟩
  · have E0 := Lib.hid (decide_eq_false e0)
    have d0 : ((e.length : Int) == p) = false := by simpa using e0
    clear e0
    go_wp2
    go_ret
    exact ⟨by rw [HV.out, hs, HF.out, E0.out]; rfl, HB.out⟩

end Go.Proofs.Ytedfbaeajofmnaa

end

section

namespace Go.Proofs.Ytedfbaeajofmnaa
open Go Ieee Go.RowKit
set_option linter.unusedVariables false

/-- what is asked of the cell with an index, where there are walls -/
def goodB (wd hi : Int) (e x y : List Nat) (j : Nat) : Bool :=
  !(nzB (e.getD j 0) && bordB false wd hi ((j : Int) % wd) ((j : Int) / wd)) && (!(nzB (x.getD j 0) && belowB false hi ((j : Int) / wd)) && !(nzB (y.getD j 0) && besideB false wd ((j : Int) % wd)))

theorem zin_wrap (p : Int → Int → Bool) (wd : Int) (xs : List Nat) (h : ∀ x y, p x y = false) : zin p wd xs = true :=
  zin_true fun i _ => by rw [h, Bool.and_false]

theorem fits_wrap (wd hi : Int) (e x y : List Nat) : fitsB wd hi true e x y = (decide ((e.length : Int) = wd * hi) && (decide ((x.length : Int) = wd * hi) && decide ((y.length : Int) = wd * hi))) := by
  unfold fitsB
  rw [zin_wrap (bordB true wd hi) _ _ (fun _ _ => rfl), zin_wrap (fun _ y => belowB true hi y) _ _ (fun _ _ => rfl), zin_wrap (fun x _ => besideB true wd x) _ _ (fun _ _ => rfl)]
  simp

theorem fits_good {wd hi : Int} {e x y : List Nat} (l0 : (e.length : Int) = wd * hi) (l1 : (x.length : Int) = wd * hi) (l2 : (y.length : Int) = wd * hi) (h : ∀ j : Nat, (j : Int) < wd * hi → goodB wd hi e x y j = true) : fitsB wd hi false e x y = true := by
  have g : ∀ j : Nat, (j : Int) < wd * hi → (nzB (e.getD j 0) && bordB false wd hi ((j : Int) % wd) ((j : Int) / wd)) = false ∧ (nzB (x.getD j 0) && belowB false hi ((j : Int) / wd)) = false ∧ (nzB (y.getD j 0) && besideB false wd ((j : Int) % wd)) = false := fun j hj => by
    have := h j hj
    unfold goodB at this
    simp only [Bool.and_eq_true, Bool.not_eq_true'] at this
    exact this
  unfold fitsB
  rw [decide_eq_true l0, decide_eq_true l1, decide_eq_true l2, zin_true (fun i hi => (g i (by omega)).1), zin_true (fun i hi => (g i (by omega)).2.1), zin_true (fun i hi => (g i (by omega)).2.2)]
  rfl

theorem fits_bad {wd hi : Int} {e x y : List Nat} (l0 : (e.length : Int) = wd * hi) (l1 : (x.length : Int) = wd * hi) (l2 : (y.length : Int) = wd * hi) (j : Nat) (hj : (j : Int) < wd * hi) (h : goodB wd hi e x y j = false) : fitsB wd hi false e x y = false := by
  unfold goodB at h
  unfold fitsB
  rcases h0 : (nzB (e.getD j 0) && bordB false wd hi ((j : Int) % wd) ((j : Int) / wd)) with _ | _
  · rcases h1 : (nzB (x.getD j 0) && belowB false hi ((j : Int) / wd)) with _ | _
    · rw [h0, h1] at h
      have h2 : (nzB (y.getD j 0) && besideB false wd ((j : Int) % wd)) = true := by simpa using h
      rw [zin_false (p := fun x _ => besideB false wd x) j (by omega) h2]; simp
    · rw [zin_false (p := fun _ y => belowB false hi y) j (by omega) h1]; simp
  · rw [zin_false j (by omega) h0]; simp

theorem div_of {wd : Int} {m k : Nat} (h : (m : Int) < wd) : ((m : Int) + wd * k) % wd = m ∧ ((m : Int) + wd * k) / wd = k := by
  constructor
  · rw [Int.add_mul_emod_self_left, Int.emod_eq_of_lt (by omega) h]
  · rw [Int.add_mul_ediv_left _ _ (by omega), Int.ediv_eq_zero_of_lt (by omega) h, Int.zero_add]

set_option maxHeartbeats 8000000 in
set_option maxRecDepth 100000 in
theorem specFits (g gf : Nat) (wd hi : Int) (wb : Bool) (a b : Option Addr) (ca cb : Nat) (xs ys : List Nat) (a0 a1 a2 : Option Addr) (c0 c1 c2 : Nat) (e x y : List Nat) (w : World) (hg : Blk w g #[.int .i64 wd, .int .i64 hi, .bool wb, .slice a xs.length ca, .slice b ys.length cb] 29) (hgf : Blk w gf #[.slice a0 e.length c0, .slice a1 x.length c1, .slice a2 y.length c2] 38) (s1 : 3 ≤ wd) (s2 : wd ≤ 16) (s3 : 3 ≤ hi) (s4 : hi ≤ 16) (h0 : RowV w a0 (fvals e)) (h1 : RowV w a1 (fvals x)) (h2 : RowV w a2 (fvals y)) (m0 : e.length ≤ maxLen) (m1 : x.length ≤ maxLen) (m2 : y.length ≤ maxLen) :
    Calls Try.prog 75 #[.pointer (some ⟨g, 0, none⟩), .pointer (some ⟨gf, 0, none⟩)] w fun r w' => r = .returned (.bool (fitsB wd hi wb e x y)) ∧ ∃ n, w' = w.drewN n := by
  unfold maxLen at m0 m1 m2
  have hm1 : 0 ≤ wd * hi := Int.mul_nonneg (by omega) (by omega)
  have hm2 : wd * hi ≤ 256 := by
    have := Int.mul_le_mul s2 s4 (by omega) (by omega); omega
  obtain ⟨gc, gz⟩ := hg.open; obtain ⟨fc, fz⟩ := hgf.open
  by_cases e0 : (e.length : Int) = wd * hi
  · skip
    by_cases e1 : (x.length : Int) = wd * hi
    · skip
      by_cases e2 : (y.length : Int) = wd * hi
      · skip
        have d0 : ((e.length : Int) != wd * hi) = false := by rw [e0]; simp
        have d1 : ((x.length : Int) != wd * hi) = false := by rw [e1]; simp
        have d2 : ((y.length : Int) != wd * hi) = false := by rw [e2]; simp
        cases wb with
        | true =>
          have E : Hid (fitsB wd hi true e x y = true) := Lib.hid (by rw [fits_wrap, decide_eq_true e0, decide_eq_true e1, decide_eq_true e2]; rfl)
          clear e0 e1 e2
          go_enter Try.func75, Try.ntmps75
          go_wp2
          go_quiet (fail)
          go_wp2
          refine wp_loop_rounds 1 ?_
          rw [rounds_succ]
          go_wp2
          go_ret
          exact ⟨by rw [E.out]; rfl, _, rfl⟩
        | false =>
          have L0 := Lib.hid e0; have L1 := Lib.hid e1; have L2 := Lib.hid e2
          clear e0 e1 e2
          go_enter Try.func75, Try.ntmps75
          go_wp2
          go_quiet (fail)
          go_wp2
          go_loop [6] (fun yv => ∃ k : Nat, (k : Int) ≤ hi ∧ yv = .int .i64 k ∧ ∀ j : Nat, (j : Int) < wd * k → goodB wd hi e x y j = true) (fun yv => (hi - intOf yv).toNat)
          case atStart => exact ⟨0, by omega, rfl, fun j hj => by simp at hj; omega⟩
          case round =>
            obtain ⟨k, hk, rfl, hall⟩ := hrel
            have HA := Lib.hid hall; clear hall
            by_cases hlt : (k : Int) < hi
            · skip
              have hp0 : 0 ≤ wd * (k : Int) := Int.mul_nonneg (by omega) (by omega)
              have hp1 : wd * (k : Int) + wd ≤ wd * hi := by
                have := Int.mul_le_mul_of_nonneg_left (show (k : Int) + 1 ≤ hi by omega) (show 0 ≤ wd by omega)
                rw [Int.mul_add, Int.mul_one] at this; exact this
              have HPP : Hid (∃ p : Int, p = wd * (k : Int)) := Lib.hid ⟨_, rfl⟩
              go_wp2
              go_loop [7] (fun xv => ∃ m : Nat, (m : Int) ≤ wd ∧ xv = .int .i64 m ∧ ∀ j : Nat, (j : Int) < wd * k + m → goodB wd hi e x y j = true) (fun xv => (wd - intOf xv).toNat)
              case atStart => exact ⟨0, by omega, rfl, fun j hj => HA.out j (by simpa using hj)⟩
              case round =>
                obtain ⟨m, hm, rfl, hin⟩ := hrel
                have HI := Lib.hid hin; clear hin
                by_cases hmt : (m : Int) < wd
                · skip
                  obtain ⟨v1, v2⟩ := div_of (k := k) hmt
                  obtain ⟨j, hj⟩ := Int.eq_ofNat_of_zero_le (show 0 ≤ (m : Int) + wd * k by omega)
                  have j0 : j < e.length := by have := L0.out; omega
                  have j1 : j < x.length := by have := L1.out; omega
                  have j2 : j < y.length := by have := L2.out; omega
                  obtain ⟨p0, o0, rfl, z0⟩ := h0 j _ (fvals_get j0)
                  obtain ⟨p1, o1, rfl, z1⟩ := h1 j _ (fvals_get j1)
                  obtain ⟨p2, o2, rfl, z2⟩ := h2 j _ (fvals_get j2)
                  have HG0 := Lib.hid (getD_get j0); have HG1 := Lib.hid (getD_get j1); have HG2 := Lib.hid (getD_get j2)
                  have i0 : (j : Int) < (e.length : Int) := by omega
                  have i1 : (j : Int) < (x.length : Int) := by omega
                  have i2 : (j : Int) < (y.length : Int) := by omega
                  have HJ : Hid ((j : Int) % wd = m ∧ (j : Int) / wd = k ∧ (j : Int) < wd * hi ∧ (j : Int) = m + wd * k) := Lib.hid ⟨by rw [← hj]; exact v1, by rw [← hj]; exact v2, by omega, hj.symm⟩
                  have hg : goodB wd hi e x y j = (!(nzB e[j] && bordB false wd hi m k) && (!(nzB x[j] && belowB false hi k) && !(nzB y[j] && besideB false wd m))) := by
                    unfold goodB
                    rw [HG0.out, HG1.out, HG2.out, HJ.out.1, HJ.out.2.1]
                  have HGD := Lib.hid hg; clear hg v1 v2
                  have bad : goodB wd hi e x y j = false → Hid (fitsB wd hi false e x y = false) := fun h => Lib.hid (fits_bad L0.out L1.out L2.out j HJ.out.2.2.1 h)
                  have BAD := Lib.hid bad; clear bad
                  generalize e[j] = ve at *; generalize x[j] = vx at *; generalize y[j] = vy at *
                  rcases f0 : bordB false wd hi (m : Int) (k : Int) with _ | _
                  · skip
                    rcases f1 : belowB false hi (k : Int) with _ | _
                    · skip
                      rcases f2 : besideB false wd (m : Int) with _ | _
                      · skip
                        have HK : Hid (goodB wd hi e x y j = true) := Lib.hid (by rw [HGD.out, f0, f1, f2]; simp)
                        change ((k : Int) == hi - 1) = false at f1
                        change ((m : Int) == wd - 1) = false at f2
                        clear BAD
                        go_wp2_with (go_at_call 116; refine (specBorder _ _ _ _ _ _ _ _ _ (hg.drewN _) s1 s2 s3 s4).mono ?_; rintro r w' ⟨rfl, rfl⟩)
                        go_round
                        case rel =>
                          refine ⟨m + 1, by omega, by go_num, fun j' hj' => ?_⟩
                          by_cases ej : j' = j
                          · subst ej; exact HK.out
                          · exact HI.out j' (by have := HJ.out.2.2.2; omega)
                        case measure => simp [intOf]; omega
                      · rcases n2 : nzB vy with _ | _
                        · skip
                          have HK : Hid (goodB wd hi e x y j = true) := Lib.hid (by rw [HGD.out, f0, f1, f2, n2]; simp)
                          unfold nzB at n2
                          change ((k : Int) == hi - 1) = false at f1
                          change ((m : Int) == wd - 1) = true at f2
                          clear BAD
                          go_wp2_with (go_at_call 116; refine (specBorder _ _ _ _ _ _ _ _ _ (hg.drewN _) s1 s2 s3 s4).mono ?_; rintro r w' ⟨rfl, rfl⟩)
                          go_round
                          case rel =>
                            refine ⟨m + 1, by omega, by go_num, fun j' hj' => ?_⟩
                            by_cases ej : j' = j
                            · subst ej; exact HK.out
                            · exact HI.out j' (by have := HJ.out.2.2.2; omega)
                          case measure => simp [intOf]; omega
                        · skip
                          have HB := BAD.out (by rw [HGD.out, f0, f1, f2, n2]; simp)
                          unfold nzB at n2
                          change ((k : Int) == hi - 1) = false at f1
                          change ((m : Int) == wd - 1) = true at f2
                          clear BAD
                          go_wp2_with (go_at_call 116; refine (specBorder _ _ _ _ _ _ _ _ _ (hg.drewN _) s1 s2 s3 s4).mono ?_; rintro r w' ⟨rfl, rfl⟩)
                          go_ret
                          exact ⟨by rw [HB.out]; rfl, _, rfl⟩
                    · rcases n1 : nzB vx with _ | _
                      · skip
                        rcases f2 : besideB false wd (m : Int) with _ | _
                        · skip
                          have HK : Hid (goodB wd hi e x y j = true) := Lib.hid (by rw [HGD.out, f0, f1, n1, f2]; simp)
                          unfold nzB at n1
                          change ((k : Int) == hi - 1) = true at f1
                          change ((m : Int) == wd - 1) = false at f2
                          clear BAD
                          go_wp2_with (go_at_call 116; refine (specBorder _ _ _ _ _ _ _ _ _ (hg.drewN _) s1 s2 s3 s4).mono ?_; rintro r w' ⟨rfl, rfl⟩)
                          go_round
                          case rel =>
                            refine ⟨m + 1, by omega, by go_num, fun j' hj' => ?_⟩
                            by_cases ej : j' = j
                            · subst ej; exact HK.out
                            · exact HI.out j' (by have := HJ.out.2.2.2; omega)
                          case measure => simp [intOf]; omega
                        · rcases n2 : nzB vy with _ | _
                          · skip
                            have HK : Hid (goodB wd hi e x y j = true) := Lib.hid (by rw [HGD.out, f0, f1, n1, f2, n2]; simp)
                            unfold nzB at n1
                            unfold nzB at n2
                            change ((k : Int) == hi - 1) = true at f1
                            change ((m : Int) == wd - 1) = true at f2
                            clear BAD
                            go_wp2_with (go_at_call 116; refine (specBorder _ _ _ _ _ _ _ _ _ (hg.drewN _) s1 s2 s3 s4).mono ?_; rintro r w' ⟨rfl, rfl⟩)
                            go_round
                            case rel =>
                              refine ⟨m + 1, by omega, by go_num, fun j' hj' => ?_⟩
                              by_cases ej : j' = j
                              · subst ej; exact HK.out
                              · exact HI.out j' (by have := HJ.out.2.2.2; omega)
                            case measure => simp [intOf]; omega
                          · skip
                            have HB := BAD.out (by rw [HGD.out, f0, f1, n1, f2, n2]; simp)
                            unfold nzB at n1
                            unfold nzB at n2
                            change ((k : Int) == hi - 1) = true at f1
                            change ((m : Int) == wd - 1) = true at f2
                            clear BAD
                            go_wp2_with (go_at_call 116; refine (specBorder _ _ _ _ _ _ _ _ _ (hg.drewN _) s1 s2 s3 s4).mono ?_; rintro r w' ⟨rfl, rfl⟩)
                            go_ret
                            exact ⟨by rw [HB.out]; rfl, _, rfl⟩
                      · skip
                        have HB := BAD.out (by rw [HGD.out, f0, f1, n1]; simp)
                        unfold nzB at n1
                        change ((k : Int) == hi - 1) = true at f1
                        clear BAD
                        go_wp2_with (go_at_call 116; refine (specBorder _ _ _ _ _ _ _ _ _ (hg.drewN _) s1 s2 s3 s4).mono ?_; rintro r w' ⟨rfl, rfl⟩)
                        go_ret
                        exact ⟨by rw [HB.out]; rfl, _, rfl⟩
                  · rcases n0 : nzB ve with _ | _
                    · skip
                      rcases f1 : belowB false hi (k : Int) with _ | _
                      · skip
                        rcases f2 : besideB false wd (m : Int) with _ | _
                        · skip
                          have HK : Hid (goodB wd hi e x y j = true) := Lib.hid (by rw [HGD.out, f0, n0, f1, f2]; simp)
                          unfold nzB at n0
                          change ((k : Int) == hi - 1) = false at f1
                          change ((m : Int) == wd - 1) = false at f2
                          clear BAD
                          go_wp2_with (go_at_call 116; refine (specBorder _ _ _ _ _ _ _ _ _ (hg.drewN _) s1 s2 s3 s4).mono ?_; rintro r w' ⟨rfl, rfl⟩)
                          go_round
                          case rel =>
                            refine ⟨m + 1, by omega, by go_num, fun j' hj' => ?_⟩
                            by_cases ej : j' = j
                            · subst ej; exact HK.out
                            · exact HI.out j' (by have := HJ.out.2.2.2; omega)
                          case measure => simp [intOf]; omega
                        · rcases n2 : nzB vy with _ | _
                          · skip
                            have HK : Hid (goodB wd hi e x y j = true) := Lib.hid (by rw [HGD.out, f0, n0, f1, f2, n2]; simp)
                            unfold nzB at n0
                            unfold nzB at n2
                            change ((k : Int) == hi - 1) = false at f1
                            change ((m : Int) == wd - 1) = true at f2
                            clear BAD
                            go_wp2_with (go_at_call 116; refine (specBorder _ _ _ _ _ _ _ _ _ (hg.drewN _) s1 s2 s3 s4).mono ?_; rintro r w' ⟨rfl, rfl⟩)
                            go_round
                            case rel =>
                              refine ⟨m + 1, by omega, by go_num, fun j' hj' => ?_⟩
                              by_cases ej : j' = j
                              · subst ej; exact HK.out
                              · exact HI.out j' (by have := HJ.out.2.2.2; omega)
                            case measure => simp [intOf]; omega
                          · skip
                            have HB := BAD.out (by rw [HGD.out, f0, n0, f1, f2, n2]; simp)
                            unfold nzB at n0
                            unfold nzB at n2
                            change ((k : Int) == hi - 1) = false at f1
                            change ((m : Int) == wd - 1) = true at f2
                            clear BAD
                            go_wp2_with (go_at_call 116; refine (specBorder _ _ _ _ _ _ _ _ _ (hg.drewN _) s1 s2 s3 s4).mono ?_; rintro r w' ⟨rfl, rfl⟩)
                            go_ret
                            exact ⟨by rw [HB.out]; rfl, _, rfl⟩
                      · rcases n1 : nzB vx with _ | _
                        · skip
                          rcases f2 : besideB false wd (m : Int) with _ | _
                          · skip
                            have HK : Hid (goodB wd hi e x y j = true) := Lib.hid (by rw [HGD.out, f0, n0, f1, n1, f2]; simp)
                            unfold nzB at n0
                            unfold nzB at n1
                            change ((k : Int) == hi - 1) = true at f1
                            change ((m : Int) == wd - 1) = false at f2
                            clear BAD
                            go_wp2_with (go_at_call 116; refine (specBorder _ _ _ _ _ _ _ _ _ (hg.drewN _) s1 s2 s3 s4).mono ?_; rintro r w' ⟨rfl, rfl⟩)
                            go_round
                            case rel =>
                              refine ⟨m + 1, by omega, by go_num, fun j' hj' => ?_⟩
                              by_cases ej : j' = j
                              · subst ej; exact HK.out
                              · exact HI.out j' (by have := HJ.out.2.2.2; omega)
                            case measure => simp [intOf]; omega
                          · rcases n2 : nzB vy with _ | _
                            · skip
                              have HK : Hid (goodB wd hi e x y j = true) := Lib.hid (by rw [HGD.out, f0, n0, f1, n1, f2, n2]; simp)
                              unfold nzB at n0
                              unfold nzB at n1
                              unfold nzB at n2
                              change ((k : Int) == hi - 1) = true at f1
                              change ((m : Int) == wd - 1) = true at f2
                              clear BAD
                              go_wp2_with (go_at_call 116; refine (specBorder _ _ _ _ _ _ _ _ _ (hg.drewN _) s1 s2 s3 s4).mono ?_; rintro r w' ⟨rfl, rfl⟩)
                              go_round
                              case rel =>
                                refine ⟨m + 1, by omega, by go_num, fun j' hj' => ?_⟩
                                by_cases ej : j' = j
                                · subst ej; exact HK.out
                                · exact HI.out j' (by have := HJ.out.2.2.2; omega)
                              case measure => simp [intOf]; omega
                            · skip
                              have HB := BAD.out (by rw [HGD.out, f0, n0, f1, n1, f2, n2]; simp)
                              unfold nzB at n0
                              unfold nzB at n1
                              unfold nzB at n2
                              change ((k : Int) == hi - 1) = true at f1
                              change ((m : Int) == wd - 1) = true at f2
                              clear BAD
                              go_wp2_with (go_at_call 116; refine (specBorder _ _ _ _ _ _ _ _ _ (hg.drewN _) s1 s2 s3 s4).mono ?_; rintro r w' ⟨rfl, rfl⟩)
                              go_ret
                              exact ⟨by rw [HB.out]; rfl, _, rfl⟩
                        · skip
                          have HB := BAD.out (by rw [HGD.out, f0, n0, f1, n1]; simp)
                          unfold nzB at n0
                          unfold nzB at n1
                          change ((k : Int) == hi - 1) = true at f1
                          clear BAD
                          go_wp2_with (go_at_call 116; refine (specBorder _ _ _ _ _ _ _ _ _ (hg.drewN _) s1 s2 s3 s4).mono ?_; rintro r w' ⟨rfl, rfl⟩)
                          go_ret
                          exact ⟨by rw [HB.out]; rfl, _, rfl⟩
                    · skip
                      have HB := BAD.out (by rw [HGD.out, f0, n0]; simp)
                      unfold nzB at n0
                      clear BAD
                      go_wp2_with (go_at_call 116; refine (specBorder _ _ _ _ _ _ _ _ _ (hg.drewN _) s1 s2 s3 s4).mono ?_; rintro r w' ⟨rfl, rfl⟩)
                      go_ret
                      exact ⟨by rw [HB.out]; rfl, _, rfl⟩
                · go_wp2
                  go_round
                  case rel =>
                    refine ⟨k + 1, by omega, by go_num, fun j' hj' => HI.out j' ?_⟩
                    have e1 : wd * ((k + 1 : Nat) : Int) = wd * k + wd := by push_cast; rw [Int.mul_add, Int.mul_one]
                    omega
                  case measure => simp [intOf]; omega
            · have E : Hid (fitsB wd hi false e x y = true) := Lib.hid (fits_good L0.out L1.out L2.out (fun j hj => HA.out j (by rw [show (k : Int) = hi by omega]; exact hj)))
              go_wp2
              go_ret
              exact ⟨by rw [E.out]; rfl, _, rfl⟩
      · have E : Hid (fitsB wd hi wb e x y = false) := Lib.hid (by unfold fitsB; rw [decide_eq_false e2]; simp)
        have d0 : ((e.length : Int) != wd * hi) = false := by rw [e0]; simp
        have d1 : ((x.length : Int) != wd * hi) = false := by rw [e1]; simp
        have d2 : ((y.length : Int) != wd * hi) = true := by simpa using e2
        clear e0 e1 e2
        go_enter Try.func75, Try.ntmps75
        go_wp2
        go_quiet (fail)
        go_wp2
        go_ret
        exact ⟨by rw [E.out]; rfl, _, rfl⟩
    · have E : Hid (fitsB wd hi wb e x y = false) := Lib.hid (by unfold fitsB; rw [decide_eq_false e1]; simp)
      have d0 : ((e.length : Int) != wd * hi) = false := by rw [e0]; simp
      have d1 : ((x.length : Int) != wd * hi) = true := by simpa using e1
      clear e0 e1
      go_enter Try.func75, Try.ntmps75
      go_wp2
      go_quiet (fail)
      go_wp2
      go_ret
      exact ⟨by rw [E.out]; rfl, _, rfl⟩
  · have E : Hid (fitsB wd hi wb e x y = false) := Lib.hid (by unfold fitsB; rw [decide_eq_false e0]; simp)
    have d0 : ((e.length : Int) != wd * hi) = true := by simpa using e0
    clear e0
    go_enter Try.func75, Try.ntmps75
    go_wp2
    go_quiet (fail)
    go_wp2
    go_ret
    exact ⟨by rw [E.out]; rfl, _, rfl⟩

end Go.Proofs.Ytedfbaeajofmnaa

end

section

namespace Go.Proofs.Ytedfbaeajofmnaa
open Go Ieee Go.RowKit
set_option linter.unusedVariables false

theorem valid_sides {wd hi : Int} {xs ys : List Nat} (h : validB wd hi xs ys = true) : sidesB wd hi = true := by
  unfold validB at h
  cases k : sidesB wd hi
  · rw [k] at h; cases h
  · rfl

end Go.Proofs.Ytedfbaeajofmnaa

end
