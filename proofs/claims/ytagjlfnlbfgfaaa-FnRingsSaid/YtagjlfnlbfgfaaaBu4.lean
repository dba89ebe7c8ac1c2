/- Several texts in one: facts on floats, lists, memory and the functions that the theorems beside this text use. Conditions: none beyond those of each theorem. -/
import Derived.Test.YtagjlfnlbfgfaaaBu3
import Derived.Test.YtagjlfnlbfgfaaaBu2
import Derived.StillTailTactics
import Derived.IntWalk

set_option linter.unusedVariables false

section

namespace Go.Proofs.Ytagjlfnlbfgfaaa
open Go Ieee Go.RowKit

/-- a number is not a zero -/
def nzB (x : Nat) : Bool := FloatKind.f32.format.order x 0 != some .eq

def bordB (wb : Bool) (wd hi x y : Int) : Bool := !wb && (((x == 0 || x == wd - 1) || y == 0) || y == hi - 1)
def belowB (wb : Bool) (hi y : Int) : Bool := !wb && y == hi - 1
def besideB (wb : Bool) (wd x : Int) : Bool := !wb && x == wd - 1

/-- all numbers of a list in some cells are zeros -/
def zin (p : Int → Int → Bool) (wd : Int) (xs : List Nat) : Bool := (List.range xs.length).all fun i => !(nzB (xs.getD i 0) && p ((i : Int) % wd) ((i : Int) / wd))

theorem zin_true {p : Int → Int → Bool} {wd : Int} {xs : List Nat} (h : ∀ i (_ : i < xs.length), (nzB (xs.getD i 0) && p ((i : Int) % wd) ((i : Int) / wd)) = false) : zin p wd xs = true := by
  unfold zin
  rw [List.all_eq_true]
  intro i hi
  rw [h i (List.mem_range.1 hi)]; rfl

theorem zin_false {p : Int → Int → Bool} {wd : Int} {xs : List Nat} (i : Nat) (hi : i < xs.length) (h : (nzB (xs.getD i 0) && p ((i : Int) % wd) ((i : Int) / wd)) = true) : zin p wd xs = false := by
  rcases e : zin p wd xs with _ | _
  · rfl
  · unfold zin at e
    rw [List.all_eq_true] at e
    have := e i (List.mem_range.2 hi)
    rw [h] at this; cases this

theorem getD_get {xs : List Nat} {i : Nat} (h : i < xs.length) : xs.getD i 0 = xs[i] := by simp [h]

def fitsB (wd hi : Int) (wb : Bool) (e x y : List Nat) : Bool :=
  (decide ((e.length : Int) = wd * hi) && (decide ((x.length : Int) = wd * hi) && decide ((y.length : Int) = wd * hi))) && (zin (bordB wb wd hi) wd e && (zin (fun _ y => belowB wb hi y) wd x && zin (fun x _ => besideB wb wd x) wd y))

def fieldB (wd hi : Int) (wb : Bool) (sp lo e x y : List Nat) : Bool := validB wd hi sp lo && fitsB wd hi wb e x y

theorem implCellAt (wd hi i : Int) (wb : Bool) (w : World) (h1 : 3 ≤ wd) (h2 : wd ≤ 16) (h3 : 0 ≤ i) (h4 : i ≤ 9223372036854775807) :
    Calls Try.prog 15 #[.agg #[.int .i64 wd, .int .i64 hi, .bool wb], .int .i64 i] w fun e w' => e = .returned (.agg #[.int .i64 (i % wd), .int .i64 (i / wd)]) ∧ Below w.heap.size w w' := by
  have hne : (wd == 0) = false := by simp; omega
  go_enter Try.func15, Try.ntmps15
  go_wp2_with fail
  have hz : wd ≠ 0 := by omega
  have X := (Blk.new w #[.int .i64 wd, .int .i64 hi, .bool wb] 40).alloc (.cells #[.int .i64 0, .int .i64 0] 43)
  have Y := Blk.new1 w (.cells #[.int .i64 wd, .int .i64 hi, .bool wb] 40) #[.int .i64 0, .int .i64 0] 43
  have B := ((Below.refl w.heap.size w).alloc (Nat.le_refl _) (.cells #[.int .i64 wd, .int .i64 hi, .bool wb] 40)).alloc (by simp) (.cells #[.int .i64 0, .int .i64 0] 43)
  have HB := Lib.hid B; clear B
  generalize ((w.alloc (.cells #[.int .i64 wd, .int .i64 hi, .bool wb] 40)).alloc (.cells #[.int .i64 0, .int .i64 0] 43)) = u at *
  obtain ⟨xc, xf⟩ := X.open
  obtain ⟨yc, yf⟩ := Y.open
  have hw : IntKind.i64.wrap (i / wd) = i / wd := IntWalk.i64_in _ (by
    have h5 : 0 ≤ i / wd := Int.ediv_nonneg h3 (by omega)
    have h6 : i / wd ≤ i := Int.ediv_le_self _ h3
    omega)
  have HW := Lib.hid hw; clear hw
  have HR : Hid (i.tmod wd = i % wd ∧ IntKind.i64.wrap (i.tdiv wd) = i / wd) := Lib.hid ⟨Int.tmod_eq_emod_of_nonneg h3, by rw [Int.tdiv_eq_ediv_of_nonneg h3]; exact HW.out⟩
  go_region_held3 (fun w' => (∀ i, w'.cell? ⟨w.heap.size, i, none⟩ = (#[.int .i64 wd, .int .i64 hi, .bool wb] : Array Value)[i]?)) (first | exact xc | exact ((X.setOther (p := ⟨w.heap.size + 1, 0, none⟩) (by simp) _).setOther (p := ⟨w.heap.size + 1, 1, none⟩) (by simp) _).open.1) (fail)
  go_wp2
  exact bodyPost_ret (v := .agg #[.int .i64 (i % wd), .int .i64 (i / wd)]) (by simp [results, Try.results15, go_sem, yc]; exact HR.out) rfl ⟨rfl, ((HB.out.setCell (p := ⟨w.heap.size + 1, 0, none⟩) (by simp) _).setCell (p := ⟨w.heap.size + 1, 1, none⟩) (by simp) _).drew⟩

end Go.Proofs.Ytagjlfnlbfgfaaa

end

section

namespace Go.Proofs.Ytagjlfnlbfgfaaa
open Go Ieee Go.RowKit
set_option linter.unusedVariables false

end Go.Proofs.Ytagjlfnlbfgfaaa

end

section

namespace Go.Proofs.Ytagjlfnlbfgfaaa
open Go Ieee Go.RowKit
set_option linter.unusedVariables false

/-- what is asked of the cell with an index, where there are walls -/
def goodB (wd hi : Int) (e x y : List Nat) (j : Nat) : Bool :=
  !(nzB (e.getD j 0) && bordB false wd hi ((j : Int) % wd) ((j : Int) / wd)) && (!(nzB (x.getD j 0) && belowB false hi ((j : Int) / wd)) && !(nzB (y.getD j 0) && besideB false wd ((j : Int) % wd)))

theorem zin_wrap (p : Int → Int → Bool) (wd : Int) (xs : List Nat) (h : ∀ x y, p x y = false) : zin p wd xs = true :=
  zin_true fun i _ => by rw [h, Bool.and_false]

theorem fits_wrap (wd hi : Int) (e x y : List Nat) : fitsB wd hi true e x y = (decide ((e.length : Int) = wd * hi) && (decide ((x.length : Int) = wd * hi) && decide ((y.length : Int) = wd * hi))) := by
  unfold fitsB
  rw [zin_wrap (bordB true wd hi) _ _ (fun _ _ => rfl), zin_wrap (fun _ y => belowB true hi y) _ _ (fun _ _ => rfl), zin_wrap (fun x _ => besideB true wd x) _ _ (fun _ _ => rfl)]
  simp

theorem fits_good {wd hi : Int} {e x y : List Nat} (l0 : (e.length : Int) = wd * hi) (l1 : (x.length : Int) = wd * hi) (l2 : (y.length : Int) = wd * hi) (h : ∀ j : Nat, (j : Int) < wd * hi → goodB wd hi e x y j = true) : fitsB wd hi false e x y = true := by
  have g : ∀ j : Nat, (j : Int) < wd * hi → (nzB (e.getD j 0) && bordB false wd hi ((j : Int) % wd) ((j : Int) / wd)) = false ∧ (nzB (x.getD j 0) && belowB false hi ((j : Int) / wd)) = false ∧ (nzB (y.getD j 0) && besideB false wd ((j : Int) % wd)) = false := fun j hj => by
    have := h j hj
    unfold goodB at this
    simp only [Bool.and_eq_true, Bool.not_eq_true'] at this
    exact this
  unfold fitsB
  rw [decide_eq_true l0, decide_eq_true l1, decide_eq_true l2, zin_true (fun i hi => (g i (by omega)).1), zin_true (fun i hi => (g i (by omega)).2.1), zin_true (fun i hi => (g i (by omega)).2.2)]
  rfl

theorem fits_bad {wd hi : Int} {e x y : List Nat} (l0 : (e.length : Int) = wd * hi) (l1 : (x.length : Int) = wd * hi) (l2 : (y.length : Int) = wd * hi) (j : Nat) (hj : (j : Int) < wd * hi) (h : goodB wd hi e x y j = false) : fitsB wd hi false e x y = false := by
  unfold goodB at h
  unfold fitsB
  rcases h0 : (nzB (e.getD j 0) && bordB false wd hi ((j : Int) % wd) ((j : Int) / wd)) with _ | _
  · rcases h1 : (nzB (x.getD j 0) && belowB false hi ((j : Int) / wd)) with _ | _
    · rw [h0, h1] at h
      have h2 : (nzB (y.getD j 0) && besideB false wd ((j : Int) % wd)) = true := by simpa using h
      rw [zin_false (p := fun x _ => besideB false wd x) j (by omega) h2]; simp
    · rw [zin_false (p := fun _ y => belowB false hi y) j (by omega) h1]; simp
  · rw [zin_false j (by omega) h0]; simp

theorem div_of {wd : Int} {m k : Nat} (h : (m : Int) < wd) : ((m : Int) + wd * k) % wd = m ∧ ((m : Int) + wd * k) / wd = k := by
  constructor
  · rw [Int.add_mul_emod_self_left, Int.emod_eq_of_lt (by omega) h]
  · rw [Int.add_mul_ediv_left _ _ (by omega), Int.ediv_eq_zero_of_lt (by omega) h, Int.zero_add]

end Go.Proofs.Ytagjlfnlbfgfaaa

end

section

namespace Go.Proofs.Ytagjlfnlbfgfaaa
open Go Ieee Go.RowKit
set_option linter.unusedVariables false

theorem valid_sides {wd hi : Int} {xs ys : List Nat} (h : validB wd hi xs ys = true) : sidesB wd hi = true := by
  unfold validB at h
  cases k : sidesB wd hi
  · rw [k] at h; cases h
  · rfl

end Go.Proofs.Ytagjlfnlbfgfaaa

end
