/- Fields of a sheet: the program's test and the model's. Conditions: none beyond those of each theorem. -/
import Derived.Test.YtabhjnpmmjmaiabVal
import Derived.Test.YtabhjnpmmjmaiabHeld
import Derived.StillTailTactics
import Derived.IntWalk
namespace Go.Proofs.Ytabhjnpmmjmaiab
open Go Ieee Go.RowKit

/-- a number is not a zero -/
def nzB (x : Nat) : Bool := FloatKind.f32.format.order x 0 != some .eq

def bordB (wb : Bool) (wd hi x y : Int) : Bool := !wb && (((x == 0 || x == wd - 1) || y == 0) || y == hi - 1)
def belowB (wb : Bool) (hi y : Int) : Bool := !wb && y == hi - 1
def besideB (wb : Bool) (wd x : Int) : Bool := !wb && x == wd - 1

/-- all numbers of a list in some cells are zeros -/
def zin (p : Int → Int → Bool) (wd : Int) (xs : List Nat) : Bool := (List.range xs.length).all fun i => !(nzB (xs.getD i 0) && p ((i : Int) % wd) ((i : Int) / wd))

theorem zin_true {p : Int → Int → Bool} {wd : Int} {xs : List Nat} (h : ∀ i (_ : i < xs.length), (nzB (xs.getD i 0) && p ((i : Int) % wd) ((i : Int) / wd)) = false) : zin p wd xs = true := by
  unfold zin
  rw [List.all_eq_true]
  intro i hi
  rw [h i (List.mem_range.1 hi)]; rfl

theorem zin_false {p : Int → Int → Bool} {wd : Int} {xs : List Nat} (i : Nat) (hi : i < xs.length) (h : (nzB (xs.getD i 0) && p ((i : Int) % wd) ((i : Int) / wd)) = true) : zin p wd xs = false := by
  rcases e : zin p wd xs with _ | _
  · rfl
  · unfold zin at e
    rw [List.all_eq_true] at e
    have := e i (List.mem_range.2 hi)
    rw [h] at this; cases this

theorem getD_get {xs : List Nat} {i : Nat} (h : i < xs.length) : xs.getD i 0 = xs[i] := by simp [h]

def fitsB (wd hi : Int) (wb : Bool) (e x y : List Nat) : Bool :=
  (decide ((e.length : Int) = wd * hi) && (decide ((x.length : Int) = wd * hi) && decide ((y.length : Int) = wd * hi))) && (zin (bordB wb wd hi) wd e && (zin (fun _ y => belowB wb hi y) wd x && zin (fun x _ => besideB wb wd x) wd y))

def fieldB (wd hi : Int) (wb : Bool) (sp lo e x y : List Nat) : Bool := validB wd hi sp lo && fitsB wd hi wb e x y

theorem implBorder (wd hi x y : Int) (wb : Bool) (w : World) (h1 : 3 ≤ wd) (h2 : wd ≤ 16) (h3 : 3 ≤ hi) (h4 : hi ≤ 16) :
    Calls Try.prog 70 #[.agg #[.int .i64 wd, .int .i64 hi, .bool wb], .agg #[.int .i64 x, .int .i64 y]] w fun e w' => e = .returned (.bool (bordB wb wd hi x y)) ∧ Below w.heap.size w w' := by
  have B := ((Below.refl w.heap.size w).alloc (Nat.le_refl _) (.cells #[.int .i64 wd, .int .i64 hi, .bool wb] 67)).alloc (by simp) (.cells #[.int .i64 x, .int .i64 y] 88)
  have HB := Lib.hid B; clear B
  unfold bordB
  cases wb with
  | true =>
    go_enter Try.func70, Try.ntmps70
    go_wp2
    go_ret
    exact ⟨rfl, HB.out⟩
  | false =>
    rcases e1 : (x == 0) with _ | _
    · rcases e2 : (x == wd - 1) with _ | _
      · rcases e3 : (y == 0) with _ | _
        · go_enter Try.func70, Try.ntmps70
          go_wp2
          go_ret
          exact ⟨rfl, HB.out⟩
        · go_enter Try.func70, Try.ntmps70
          go_wp2
          go_ret
          exact ⟨rfl, HB.out⟩
      · go_enter Try.func70, Try.ntmps70
        go_wp2
        go_ret
        exact ⟨rfl, HB.out⟩
    · go_enter Try.func70, Try.ntmps70
      go_wp2
      go_ret
      exact ⟨rfl, HB.out⟩

theorem specBorder (g : Nat) (wd hi x y : Int) (wb : Bool) (v3 v4 : Value) (w : World) (hg : Blk w g #[.int .i64 wd, .int .i64 hi, .bool wb, v3, v4] 27) (h1 : 3 ≤ wd) (h2 : wd ≤ 16) (h3 : 3 ≤ hi) (h4 : hi ≤ 16) :
    Calls Try.prog 78 #[.pointer (some ⟨g, 0, none⟩), .int .i64 x, .int .i64 y] w fun e w' => e = .returned (.bool (bordB wb wd hi x y)) ∧ w = w' := by
  obtain ⟨gc, gf⟩ := hg.open
  unfold bordB
  cases wb with
  | true =>
    go_enter Try.func78, Try.ntmps78
    go_wp2
    go_ret
    exact ⟨rfl, rfl⟩
  | false =>
    rcases e1 : (x == 0) with _ | _
    · rcases e2 : (x == wd - 1) with _ | _
      · rcases e3 : (y == 0) with _ | _
        · go_enter Try.func78, Try.ntmps78
          go_wp2
          go_ret
          exact ⟨rfl, rfl⟩
        · go_enter Try.func78, Try.ntmps78
          go_wp2
          go_ret
          exact ⟨rfl, rfl⟩
      · go_enter Try.func78, Try.ntmps78
        go_wp2
        go_ret
        exact ⟨rfl, rfl⟩
    · go_enter Try.func78, Try.ntmps78
      go_wp2
      go_ret
      exact ⟨rfl, rfl⟩

theorem implBelow (wd hi x y : Int) (wb : Bool) (w : World) (h3 : 3 ≤ hi) (h4 : hi ≤ 16) :
    Calls Try.prog 71 #[.agg #[.int .i64 wd, .int .i64 hi, .bool wb], .agg #[.int .i64 x, .int .i64 y]] w fun e w' => e = .returned (.bool (belowB wb hi y)) ∧ Below w.heap.size w w' := by
  have B := ((Below.refl w.heap.size w).alloc (Nat.le_refl _) (.cells #[.int .i64 wd, .int .i64 hi, .bool wb] 67)).alloc (by simp) (.cells #[.int .i64 x, .int .i64 y] 88)
  have HB := Lib.hid B; clear B
  unfold belowB
  cases wb with
  | true =>
    go_enter Try.func71, Try.ntmps71
    go_wp2
    go_ret
    exact ⟨rfl, HB.out⟩
  | false =>
    go_enter Try.func71, Try.ntmps71
    go_wp2
    go_ret
    exact ⟨rfl, HB.out⟩

theorem implBeside (wd hi x y : Int) (wb : Bool) (w : World) (h3 : 3 ≤ wd) (h4 : wd ≤ 16) :
    Calls Try.prog 72 #[.agg #[.int .i64 wd, .int .i64 hi, .bool wb], .agg #[.int .i64 x, .int .i64 y]] w fun e w' => e = .returned (.bool (besideB wb wd x)) ∧ Below w.heap.size w w' := by
  have B := ((Below.refl w.heap.size w).alloc (Nat.le_refl _) (.cells #[.int .i64 wd, .int .i64 hi, .bool wb] 67)).alloc (by simp) (.cells #[.int .i64 x, .int .i64 y] 88)
  have HB := Lib.hid B; clear B
  unfold besideB
  cases wb with
  | true =>
    go_enter Try.func72, Try.ntmps72
    go_wp2
    go_ret
    exact ⟨rfl, HB.out⟩
  | false =>
    go_enter Try.func72, Try.ntmps72
    go_wp2
    go_ret
    exact ⟨rfl, HB.out⟩

theorem implCellAt (wd hi i : Int) (wb : Bool) (w : World) (h1 : 3 ≤ wd) (h2 : wd ≤ 16) (h3 : 0 ≤ i) (h4 : i ≤ 9223372036854775807) :
    Calls Try.prog 99 #[.agg #[.int .i64 wd, .int .i64 hi, .bool wb], .int .i64 i] w fun e w' => e = .returned (.agg #[.int .i64 (i % wd), .int .i64 (i / wd)]) ∧ Below w.heap.size w w' := by
  have hne : (wd == 0) = false := by simp; omega
  go_enter Try.func99, Try.ntmps99
  go_wp2_with fail
  have hz : wd ≠ 0 := by omega
  have X := (Blk.new w #[.int .i64 wd, .int .i64 hi, .bool wb] 67).alloc (.cells #[.int .i64 0, .int .i64 0] 88)
  have Y := Blk.new1 w (.cells #[.int .i64 wd, .int .i64 hi, .bool wb] 67) #[.int .i64 0, .int .i64 0] 88
  have B := ((Below.refl w.heap.size w).alloc (Nat.le_refl _) (.cells #[.int .i64 wd, .int .i64 hi, .bool wb] 67)).alloc (by simp) (.cells #[.int .i64 0, .int .i64 0] 88)
  have HB := Lib.hid B; clear B
  generalize ((w.alloc (.cells #[.int .i64 wd, .int .i64 hi, .bool wb] 67)).alloc (.cells #[.int .i64 0, .int .i64 0] 88)) = u at *
  obtain ⟨xc, xf⟩ := X.open
  obtain ⟨yc, yf⟩ := Y.open
  have hw : IntKind.i64.wrap (i / wd) = i / wd := IntWalk.i64_in _ (by
    have h5 : 0 ≤ i / wd := Int.ediv_nonneg h3 (by omega)
    have h6 : i / wd ≤ i := Int.ediv_le_self _ h3
    omega)
  have HW := Lib.hid hw; clear hw
  have HR : Hid (i.tmod wd = i % wd ∧ IntKind.i64.wrap (i.tdiv wd) = i / wd) := Lib.hid ⟨Int.tmod_eq_emod_of_nonneg h3, by rw [Int.tdiv_eq_ediv_of_nonneg h3]; exact HW.out⟩
  go_region_held3 (fun w' => (∀ i, w'.cell? ⟨w.heap.size, i, none⟩ = (#[.int .i64 wd, .int .i64 hi, .bool wb] : Array Value)[i]?)) (first | exact xc | exact ((X.setOther (p := ⟨w.heap.size + 1, 0, none⟩) (by simp) _).setOther (p := ⟨w.heap.size + 1, 1, none⟩) (by simp) _).open.1) (fail)
  go_wp2
  exact bodyPost_ret (v := .agg #[.int .i64 (i % wd), .int .i64 (i / wd)]) (by simp [results, Try.results99, go_sem, yc]; exact HR.out) rfl ⟨rfl, ((HB.out.setCell (p := ⟨w.heap.size + 1, 0, none⟩) (by simp) _).setCell (p := ⟨w.heap.size + 1, 1, none⟩) (by simp) _).drew⟩

set_option maxHeartbeats 2000000 in
theorem implZero_border (wd hi : Int) (wb : Bool) (a : Option Addr) (ca : Nat) (xs : List Nat) (w : World) (h1 : 3 ≤ wd) (h2 : wd ≤ 16) (h3 : 3 ≤ hi) (h4 : hi ≤ 16) (ha : RowV w a (fvals xs)) (hn : xs.length ≤ maxLen) :
    Calls Try.prog 69 #[.agg #[.int .i64 wd, .int .i64 hi, .bool wb], .slice a xs.length ca, .func (.func 70) #[.agg #[.int .i64 wd, .int .i64 hi, .bool wb]] #[]] w fun e w' => e = .returned (.bool (zin (bordB wb wd hi) wd xs)) ∧ Below w.heap.size w w' := by
  unfold maxLen at hn
  have B := (Below.refl w.heap.size w).alloc (Nat.le_refl _) (.cells #[.int .i64 wd, .int .i64 hi, .bool wb] 67)
  have X := Blk.new w #[.int .i64 wd, .int .i64 hi, .bool wb] 67
  generalize hr : zin (bordB wb wd hi) wd xs = r at *
  have HR := Lib.hid hr
  clear hr
  generalize hlen : xs.length = n at hn ⊢
  have HL := Lib.hid hlen
  clear hlen
  go_enter Try.func69, Try.ntmps69
  go_wp2_with fail
  generalize w.alloc (.cells #[.int .i64 wd, .int .i64 hi, .bool wb] 67) = u at *
  have HB := Lib.hid B; clear B
  go_loopw [7, 8, 11] (fun _ _ i wr => ∃ k : Nat, k ≤ n ∧ i = .int .i64 k ∧ (∀ j (_ : j < xs.length), j < k → (nzB (xs.getD j 0) && ((bordB wb wd hi)) ((j : Int) % wd) ((j : Int) / wd)) = false) ∧ Below u.heap.size u wr) (fun _ _ i _ => n - (intOf i).toNat)
  case atStart => exact ⟨0, Nat.zero_le _, rfl, fun j _ hj => by omega, Below.refl _ _⟩
  case round =>
    skip
    obtain ⟨k, hk, rfl, hall, hb⟩ := hrel
    have HA := Lib.hid hall
    have HW := Lib.hid (HB.out.trans (hb.mono HB.out.size))
    have XX := X.below hb X.lt
    have hb' := Lib.hid hb
    clear hall hb
    obtain ⟨xc, xf⟩ := XX.open
    by_cases hlt : k < n
    · have k1 : k < xs.length := by rw [HL.out]; exact hlt
      obtain ⟨ba, oa, rfl, c0⟩ := ha k _ (fvals_get k1)
      have c1 : wr.cell? ⟨ba, oa + k, none⟩ = some (.float .f32 xs[k]) := by rw [Below.cell HW.out (p := ⟨ba, oa + k, none⟩) (lt_of_cell c0)]; exact c0
      have HG := Lib.hid (getD_get k1)
      have hki : ((k : Nat) : Int) < (n : Int) := by omega
      clear c0
      rcases hz : nzB xs[k] with _ | _
      · have HZ : Hid ((nzB (xs.getD k 0) && ((bordB wb wd hi)) ((k : Int) % wd) ((k : Int) / wd)) = false) := Lib.hid (by rw [HG.out, hz]; rfl)
        unfold nzB at hz
        go_wp2
        go_roundw
        case rel =>
          refine ⟨k + 1, by omega, by go_num, fun j hj hjk => ?_, hb'.out⟩
          by_cases e : j = k
          · subst e; exact HZ.out
          · exact HA.out j hj (by omega)
        case measure => simp [intOf]; omega
      · have HZ := Lib.hid hz
        unfold nzB at hz
        go_wp2_with fail
        refine (implCellAt _ _ _ _ _ h1 h2 (by omega) (by omega)).mono ?_
        rintro e w2 ⟨rfl, b2⟩
        go_wp2_with fail
        refine (implBorder _ _ _ _ _ _ h1 h2 h3 h4).mono ?_
        rintro e w3 ⟨rfl, b3⟩
        have HB2 := Lib.hid (hb'.out.trans ((b2.trans (b3.mono b2.size)).mono hb'.out.size))
        clear b2 b3
        rcases hp : ((bordB wb wd hi)) ((k : Int) % wd) ((k : Int) / wd) with _ | _
        · have HZ2 : Hid ((nzB (xs.getD k 0) && ((bordB wb wd hi)) ((k : Int) % wd) ((k : Int) / wd)) = false) := Lib.hid (by rw [hp, Bool.and_false])
          try dsimp only at hp
          go_wp2
          go_roundw
          case rel =>
            refine ⟨k + 1, by omega, by go_num, fun j hj hjk => ?_, HB2.out⟩
            by_cases e : j = k
            · subst e; exact HZ2.out
            · exact HA.out j hj (by omega)
          case measure => simp [intOf]; omega
        · have hrr : r = false := by rw [← HR.out]; exact zin_false k k1 (by rw [HG.out, HZ.out]; exact hp)
          subst hrr
          try dsimp only at hp
          go_wp2
          go_ret
          exact ⟨rfl, HB.out.trans (HB2.out.mono HB.out.size)⟩
    · have hrr : r = true := by rw [← HR.out]; exact zin_true fun j hj => HA.out j hj (by have := HL.out; omega)
      subst hrr
      go_wp2
      go_ret
      exact ⟨rfl, HW.out⟩

set_option maxHeartbeats 2000000 in
theorem implZero_below (wd hi : Int) (wb : Bool) (a : Option Addr) (ca : Nat) (xs : List Nat) (w : World) (h1 : 3 ≤ wd) (h2 : wd ≤ 16) (h3 : 3 ≤ hi) (h4 : hi ≤ 16) (ha : RowV w a (fvals xs)) (hn : xs.length ≤ maxLen) :
    Calls Try.prog 69 #[.agg #[.int .i64 wd, .int .i64 hi, .bool wb], .slice a xs.length ca, .func (.func 71) #[.agg #[.int .i64 wd, .int .i64 hi, .bool wb]] #[]] w fun e w' => e = .returned (.bool (zin (fun _ y => belowB wb hi y) wd xs)) ∧ Below w.heap.size w w' := by
  unfold maxLen at hn
  have B := (Below.refl w.heap.size w).alloc (Nat.le_refl _) (.cells #[.int .i64 wd, .int .i64 hi, .bool wb] 67)
  have X := Blk.new w #[.int .i64 wd, .int .i64 hi, .bool wb] 67
  generalize hr : zin (fun _ y => belowB wb hi y) wd xs = r at *
  have HR := Lib.hid hr
  clear hr
  generalize hlen : xs.length = n at hn ⊢
  have HL := Lib.hid hlen
  clear hlen
  go_enter Try.func69, Try.ntmps69
  go_wp2_with fail
  generalize w.alloc (.cells #[.int .i64 wd, .int .i64 hi, .bool wb] 67) = u at *
  have HB := Lib.hid B; clear B
  go_loopw [7, 8, 11] (fun _ _ i wr => ∃ k : Nat, k ≤ n ∧ i = .int .i64 k ∧ (∀ j (_ : j < xs.length), j < k → (nzB (xs.getD j 0) && ((fun _ y => belowB wb hi y)) ((j : Int) % wd) ((j : Int) / wd)) = false) ∧ Below u.heap.size u wr) (fun _ _ i _ => n - (intOf i).toNat)
  case atStart => exact ⟨0, Nat.zero_le _, rfl, fun j _ hj => by omega, Below.refl _ _⟩
  case round =>
    skip
    obtain ⟨k, hk, rfl, hall, hb⟩ := hrel
    have HA := Lib.hid hall
    have HW := Lib.hid (HB.out.trans (hb.mono HB.out.size))
    have XX := X.below hb X.lt
    have hb' := Lib.hid hb
    clear hall hb
    obtain ⟨xc, xf⟩ := XX.open
    by_cases hlt : k < n
    · have k1 : k < xs.length := by rw [HL.out]; exact hlt
      obtain ⟨ba, oa, rfl, c0⟩ := ha k _ (fvals_get k1)
      have c1 : wr.cell? ⟨ba, oa + k, none⟩ = some (.float .f32 xs[k]) := by rw [Below.cell HW.out (p := ⟨ba, oa + k, none⟩) (lt_of_cell c0)]; exact c0
      have HG := Lib.hid (getD_get k1)
      have hki : ((k : Nat) : Int) < (n : Int) := by omega
      clear c0
      rcases hz : nzB xs[k] with _ | _
      · have HZ : Hid ((nzB (xs.getD k 0) && ((fun _ y => belowB wb hi y)) ((k : Int) % wd) ((k : Int) / wd)) = false) := Lib.hid (by rw [HG.out, hz]; rfl)
        unfold nzB at hz
        go_wp2
        go_roundw
        case rel =>
          refine ⟨k + 1, by omega, by go_num, fun j hj hjk => ?_, hb'.out⟩
          by_cases e : j = k
          · subst e; exact HZ.out
          · exact HA.out j hj (by omega)
        case measure => simp [intOf]; omega
      · have HZ := Lib.hid hz
        unfold nzB at hz
        go_wp2_with fail
        refine (implCellAt _ _ _ _ _ h1 h2 (by omega) (by omega)).mono ?_
        rintro e w2 ⟨rfl, b2⟩
        go_wp2_with fail
        refine (implBelow _ _ _ _ _ _ h3 h4).mono ?_
        rintro e w3 ⟨rfl, b3⟩
        have HB2 := Lib.hid (hb'.out.trans ((b2.trans (b3.mono b2.size)).mono hb'.out.size))
        clear b2 b3
        rcases hp : ((fun _ y => belowB wb hi y)) ((k : Int) % wd) ((k : Int) / wd) with _ | _
        · have HZ2 : Hid ((nzB (xs.getD k 0) && ((fun _ y => belowB wb hi y)) ((k : Int) % wd) ((k : Int) / wd)) = false) := Lib.hid (by rw [hp, Bool.and_false])
          try dsimp only at hp
          go_wp2
          go_roundw
          case rel =>
            refine ⟨k + 1, by omega, by go_num, fun j hj hjk => ?_, HB2.out⟩
            by_cases e : j = k
            · subst e; exact HZ2.out
            · exact HA.out j hj (by omega)
          case measure => simp [intOf]; omega
        · have hrr : r = false := by rw [← HR.out]; exact zin_false k k1 (by rw [HG.out, HZ.out]; exact hp)
          subst hrr
          try dsimp only at hp
          go_wp2
          go_ret
          exact ⟨rfl, HB.out.trans (HB2.out.mono HB.out.size)⟩
    · have hrr : r = true := by rw [← HR.out]; exact zin_true fun j hj => HA.out j hj (by have := HL.out; omega)
      subst hrr
      go_wp2
      go_ret
      exact ⟨rfl, HW.out⟩

set_option maxHeartbeats 2000000 in
theorem implZero_beside (wd hi : Int) (wb : Bool) (a : Option Addr) (ca : Nat) (xs : List Nat) (w : World) (h1 : 3 ≤ wd) (h2 : wd ≤ 16) (h3 : 3 ≤ hi) (h4 : hi ≤ 16) (ha : RowV w a (fvals xs)) (hn : xs.length ≤ maxLen) :
    Calls Try.prog 69 #[.agg #[.int .i64 wd, .int .i64 hi, .bool wb], .slice a xs.length ca, .func (.func 72) #[.agg #[.int .i64 wd, .int .i64 hi, .bool wb]] #[]] w fun e w' => e = .returned (.bool (zin (fun x _ => besideB wb wd x) wd xs)) ∧ Below w.heap.size w w' := by
  unfold maxLen at hn
  have B := (Below.refl w.heap.size w).alloc (Nat.le_refl _) (.cells #[.int .i64 wd, .int .i64 hi, .bool wb] 67)
  have X := Blk.new w #[.int .i64 wd, .int .i64 hi, .bool wb] 67
  generalize hr : zin (fun x _ => besideB wb wd x) wd xs = r at *
  have HR := Lib.hid hr
  clear hr
  generalize hlen : xs.length = n at hn ⊢
  have HL := Lib.hid hlen
  clear hlen
  go_enter Try.func69, Try.ntmps69
  go_wp2_with fail
  generalize w.alloc (.cells #[.int .i64 wd, .int .i64 hi, .bool wb] 67) = u at *
  have HB := Lib.hid B; clear B
  go_loopw [7, 8, 11] (fun _ _ i wr => ∃ k : Nat, k ≤ n ∧ i = .int .i64 k ∧ (∀ j (_ : j < xs.length), j < k → (nzB (xs.getD j 0) && ((fun x _ => besideB wb wd x)) ((j : Int) % wd) ((j : Int) / wd)) = false) ∧ Below u.heap.size u wr) (fun _ _ i _ => n - (intOf i).toNat)
  case atStart => exact ⟨0, Nat.zero_le _, rfl, fun j _ hj => by omega, Below.refl _ _⟩
  case round =>
    skip
    obtain ⟨k, hk, rfl, hall, hb⟩ := hrel
    have HA := Lib.hid hall
    have HW := Lib.hid (HB.out.trans (hb.mono HB.out.size))
    have XX := X.below hb X.lt
    have hb' := Lib.hid hb
    clear hall hb
    obtain ⟨xc, xf⟩ := XX.open
    by_cases hlt : k < n
    · have k1 : k < xs.length := by rw [HL.out]; exact hlt
      obtain ⟨ba, oa, rfl, c0⟩ := ha k _ (fvals_get k1)
      have c1 : wr.cell? ⟨ba, oa + k, none⟩ = some (.float .f32 xs[k]) := by rw [Below.cell HW.out (p := ⟨ba, oa + k, none⟩) (lt_of_cell c0)]; exact c0
      have HG := Lib.hid (getD_get k1)
      have hki : ((k : Nat) : Int) < (n : Int) := by omega
      clear c0
      rcases hz : nzB xs[k] with _ | _
      · have HZ : Hid ((nzB (xs.getD k 0) && ((fun x _ => besideB wb wd x)) ((k : Int) % wd) ((k : Int) / wd)) = false) := Lib.hid (by rw [HG.out, hz]; rfl)
        unfold nzB at hz
        go_wp2
        go_roundw
        case rel =>
          refine ⟨k + 1, by omega, by go_num, fun j hj hjk => ?_, hb'.out⟩
          by_cases e : j = k
          · subst e; exact HZ.out
          · exact HA.out j hj (by omega)
        case measure => simp [intOf]; omega
      · have HZ := Lib.hid hz
        unfold nzB at hz
        go_wp2_with fail
        refine (implCellAt _ _ _ _ _ h1 h2 (by omega) (by omega)).mono ?_
        rintro e w2 ⟨rfl, b2⟩
        go_wp2_with fail
        refine (implBeside _ _ _ _ _ _ h1 h2).mono ?_
        rintro e w3 ⟨rfl, b3⟩
        have HB2 := Lib.hid (hb'.out.trans ((b2.trans (b3.mono b2.size)).mono hb'.out.size))
        clear b2 b3
        rcases hp : ((fun x _ => besideB wb wd x)) ((k : Int) % wd) ((k : Int) / wd) with _ | _
        · have HZ2 : Hid ((nzB (xs.getD k 0) && ((fun x _ => besideB wb wd x)) ((k : Int) % wd) ((k : Int) / wd)) = false) := Lib.hid (by rw [hp, Bool.and_false])
          try dsimp only at hp
          go_wp2
          go_roundw
          case rel =>
            refine ⟨k + 1, by omega, by go_num, fun j hj hjk => ?_, HB2.out⟩
            by_cases e : j = k
            · subst e; exact HZ2.out
            · exact HA.out j hj (by omega)
          case measure => simp [intOf]; omega
        · have hrr : r = false := by rw [← HR.out]; exact zin_false k k1 (by rw [HG.out, HZ.out]; exact hp)
          subst hrr
          try dsimp only at hp
          go_wp2
          go_ret
          exact ⟨rfl, HB.out.trans (HB2.out.mono HB.out.size)⟩
    · have hrr : r = true := by rw [← HR.out]; exact zin_true fun j hj => HA.out j hj (by have := HL.out; omega)
      subst hrr
      go_wp2
      go_ret
      exact ⟨rfl, HW.out⟩
end Go.Proofs.Ytabhjnpmmjmaiab
