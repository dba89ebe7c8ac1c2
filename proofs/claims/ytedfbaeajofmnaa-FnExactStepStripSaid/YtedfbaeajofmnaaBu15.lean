/- Several texts in one: facts on floats, lists, memory and the functions that the theorems beside this text use. Conditions: none beyond those of each theorem. -/
import Derived.Test.YtedfbaeajofmnaaBu5
import Derived.Test.YtedfbaeajofmnaaBu7
import Derived.Test.YtedfbaeajofmnaaBu13

set_option linter.unusedVariables false

section

namespace Go.Proofs.Ytedfbaeajofmnaa
open Go Ieee Go.RowKit
set_option linter.unusedVariables false

theorem mulN (x y : Nat) (w : World) : Calls Try.prog 137 #[.float .f32 x, .float .f32 y] w fun e w' => ∃ v n, e = .returned (.float .f32 v) ∧ w' = w.drewN n ∧ canon .f32 v = fop .mul .f32 (canon .f32 x) (canon .f32 y) ∧ v < 2 ^ 32 := by
  go_enter Try.func137, Try.ntmps137
  go_wp2_with (refine wpList_arith rfl _ _ _ _ _ rfl rfl .f32 _ _ rfl rfl ?_; intro v q hc hv; have HC := Lib.hid hc; clear hc)
  go_ret
  exact ⟨v, _, rfl, rfl, HC.out, hv⟩

def ifO (b : Bool) (m : List (Option Nat)) : List (Option Nat) := if b then m else []
def mulC (xs : List Nat) (by_ : Nat) : List (Option Nat) := xs.map fun x => fop .mul .f32 (canon .f32 x) (canon .f32 by_)
/-- some bits for each number -/
def repC (m : List (Option Nat)) : List Nat := m.map fun x => x.getD 2143289344

theorem nzB_canon {x y : Nat} (h : canon .f32 x = canon .f32 y) : nzB x = nzB y := by
  unfold nzB; rw [order_canon, order_canon .f32 y 0, h]

theorem rep_canon {x : Nat} {o : Option Nat} (h : canon .f32 x = o) : canon .f32 (o.getD 2143289344) = o := by
  cases o with
  | none => decide
  | some a =>
    obtain ⟨rfl, hn⟩ := canon_some h
    exact h

theorem zin_is {p : Int → Int → Bool} {wd : Int} {y : List Nat} {m : List (Option Nat)} (h : Is y m) : zin p wd y = zin p wd (repC m) := by
  have hl : y.length = (repC m).length := by unfold repC; rw [List.length_map, ← h.eq, cl_length]
  unfold zin
  rw [← hl]
  have hcong : ∀ (l : List Nat) (f g : Nat → Bool), (∀ i ∈ l, f i = g i) → l.all f = l.all g := fun l f g hfg => by
    induction l with
    | nil => rfl
    | cons a l ih => rw [List.all_cons, List.all_cons, hfg a (by simp), ih (fun i hi => hfg i (by simp [hi]))]
  apply hcong
  intro i hi
  have hi' : i < y.length := List.mem_range.1 hi
  have e : nzB (y.getD i 0) = nzB ((repC m).getD i 0) := by
    apply nzB_canon
    rw [getD_get hi', getD_get (show i < (repC m).length by omega)]
    have hm : m[i]? = some (canon .f32 y[i]) := by rw [← h.eq]; unfold cl; rw [List.getElem?_map, List.getElem?_eq_getElem hi']; rfl
    have hm2 : i < m.length := (List.getElem?_eq_some_iff.1 hm).1
    have hm3 : m[i] = canon .f32 y[i] := by rw [List.getElem?_eq_getElem hm2] at hm; injection hm
    unfold repC
    rw [List.getElem_map, hm3]
    exact (rep_canon rfl).symm
  rw [e]

theorem fits_is {wd hi : Int} {wb : Bool} {e x y : List Nat} {m0 m1 m2 : List (Option Nat)} (h0 : Is e m0) (h1 : Is x m1) (h2 : Is y m2) : fitsB wd hi wb e x y = fitsB wd hi wb (repC m0) (repC m1) (repC m2) := by
  have l : ∀ {y : List Nat} {m : List (Option Nat)}, Is y m → (repC m).length = y.length := fun h => by unfold repC; rw [List.length_map, ← h.eq, cl_length]
  unfold fitsB
  rw [l h0, l h1, l h2, zin_is h0, zin_is h1, zin_is h2]

/-- what a list is behind k products -/
def MulTo (xs : List Nat) (by_ : Nat) (k : Nat) (L : List Nat) : Prop := L.length = xs.length ∧ (∀ z ∈ L, z < 2 ^ 32) ∧ ∀ j (h : j < L.length) (h' : j < xs.length), j < k → canon .f32 L[j] = fop .mul .f32 (canon .f32 xs[j]) (canon .f32 by_)

theorem mulTo_next {xs : List Nat} {by_ k : Nat} {L : List Nat} {v : Nat} (h : MulTo xs by_ k L) (hk : k < xs.length) (hv : v < 2 ^ 32) (hc : canon .f32 v = fop .mul .f32 (canon .f32 xs[k]) (canon .f32 by_)) : MulTo xs by_ (k + 1) (L.set k v) := by
  obtain ⟨h1, h2, h3⟩ := h
  refine ⟨by rw [List.length_set]; exact h1, fun z hz => ?_, fun j hj hj' hjk => ?_⟩
  · rcases List.mem_or_eq_of_mem_set hz with h' | h'
    · exact h2 _ h'
    · rw [h']; exact hv
  · rw [List.getElem_set]
    split
    · rename_i e; subst e; exact hc
    · exact h3 j (by rw [List.length_set] at hj; exact hj) hj' (by omega)

theorem mulTo_all {xs : List Nat} {by_ k : Nat} {L : List Nat} (h : MulTo xs by_ k L) (hk : xs.length ≤ k) (hf : xs.length ≤ 256) : Is L (mulC xs by_) := by
  obtain ⟨h1, h2, h3⟩ := h
  refine ⟨?_, h2, by omega⟩
  apply List.ext_getElem
  · unfold cl mulC; rw [List.length_map, List.length_map, h1]
  · intro i hi hi'
    unfold cl mulC at *
    rw [List.getElem_map, List.getElem_map]
    exact h3 i (by simpa using hi) (by simpa using hi') (by rw [List.length_map] at hi'; omega)

set_option maxHeartbeats 4000000 in
set_option maxRecDepth 100000 in
theorem implIfFieldYes (wd hi : Int) (wb : Bool) (a b : Option Addr) (ca cb : Nat) (xs ys : List Nat) (a0 a1 a2 : Option Addr) (c0 c1 c2 : Nat) (e x y : List Nat) (w : World) (ha : RowV w a (fvals xs)) (hb : RowV w b (fvals ys)) (hx : xs.length ≤ maxLen) (hy : ys.length ≤ maxLen) (h0 : RowV w a0 (fvals e)) (h1 : RowV w a1 (fvals x)) (h2 : RowV w a2 (fvals y)) (m0 : e.length ≤ maxLen) (m1 : x.length ≤ maxLen) (m2 : y.length ≤ maxLen) (hfb : fieldB wd hi wb xs ys e x y = true) :
    Calls Try.prog 80 #[.agg #[.int .i64 wd, .int .i64 hi, .bool wb, .slice a xs.length ca, .slice b ys.length cb], .agg #[.slice a0 e.length c0, .slice a1 x.length c1, .slice a2 y.length c2]] w fun r w' => r = .returned (.tuple #[.agg #[.slice a0 e.length c0, .slice a1 x.length c1, .slice a2 y.length c2], .bool true]) ∧ Below w.heap.size w w' := by
  have HFB := Lib.hid hfb; clear hfb
  have X := Blk.new w #[.int .i64 wd, .int .i64 hi, .bool wb, .slice a xs.length ca, .slice b ys.length cb] 29
  have Y := Blk.new1 w (.cells #[.int .i64 wd, .int .i64 hi, .bool wb, .slice a xs.length ca, .slice b ys.length cb] 29) #[.slice a0 e.length c0, .slice a1 x.length c1, .slice a2 y.length c2] 38
  replace X := X.alloc (.cells #[.slice a0 e.length c0, .slice a1 x.length c1, .slice a2 y.length c2] 38)
  have R := Blk.new2 w (.cells #[.int .i64 wd, .int .i64 hi, .bool wb, .slice a xs.length ca, .slice b ys.length cb] 29) (.cells #[.slice a0 e.length c0, .slice a1 x.length c1, .slice a2 y.length c2] 38) #[.slice none 0 0, .slice none 0 0, .slice none 0 0] 38
  replace X := X.alloc (.cells #[.slice none 0 0, .slice none 0 0, .slice none 0 0] 38)
  replace Y := Y.alloc (.cells #[.slice none 0 0, .slice none 0 0, .slice none 0 0] 38)
  have HB : Hid (Below w.heap.size w (((w.alloc (.cells #[.int .i64 wd, .int .i64 hi, .bool wb, .slice a xs.length ca, .slice b ys.length cb] 29)).alloc (.cells #[.slice a0 e.length c0, .slice a1 x.length c1, .slice a2 y.length c2] 38)).alloc (.cells #[.slice none 0 0, .slice none 0 0, .slice none 0 0] 38))) := Lib.hid ((((Below.refl w.heap.size w).alloc (by simp <;> omega) _).alloc (by simp <;> omega) _).alloc (by simp <;> omega) _)
  go_enter Try.func80, Try.ntmps80
  go_wp2_with fail
  generalize (((w.alloc (.cells #[.int .i64 wd, .int .i64 hi, .bool wb, .slice a xs.length ca, .slice b ys.length cb] 29)).alloc (.cells #[.slice a0 e.length c0, .slice a1 x.length c1, .slice a2 y.length c2] 38)).alloc (.cells #[.slice none 0 0, .slice none 0 0, .slice none 0 0] 38)) = u1 at *
  refine (implIsField _ _ _ _ _ _ _ _ _ _ _ _ _ _ _ _ _ _ _ (ha.later HB.out) (hb.later HB.out) hx hy (h0.later HB.out) (h1.later HB.out) (h2.later HB.out) m0 m1 m2).mono ?_
  rintro r u2 ⟨rfl, q⟩
  replace X := X.later q
  replace Y := Y.later q
  replace R := R.later q
  replace HB := Lib.hid (HB.out.trans (q.mono HB.out.size))
  clear q
  rw [HFB.out]
  obtain ⟨Yc, Yf⟩ := Y.open
  obtain ⟨Rc, Rf⟩ := R.open
  go_wp2
  exact bodyPost_ret (v := .tuple #[.agg #[.slice a0 e.length c0, .slice a1 x.length c1, .slice a2 y.length c2], .bool true]) (by simp [results, Try.results80, go_sem, Rc]) rfl ⟨rfl, (((HB.out.setCell (p := ⟨w.heap.size + 1 + 1, 0, none⟩) (by simp <;> omega) _).setCell (p := ⟨w.heap.size + 1 + 1, 1, none⟩) (by simp <;> omega) _).setCell (p := ⟨w.heap.size + 1 + 1, 2, none⟩) (by simp <;> omega) _)⟩

set_option maxHeartbeats 4000000 in
set_option maxRecDepth 100000 in
theorem implIfFieldNo (wd hi : Int) (wb : Bool) (a b : Option Addr) (ca cb : Nat) (xs ys : List Nat) (a0 a1 a2 : Option Addr) (c0 c1 c2 : Nat) (e x y : List Nat) (w : World) (ha : RowV w a (fvals xs)) (hb : RowV w b (fvals ys)) (hx : xs.length ≤ maxLen) (hy : ys.length ≤ maxLen) (h0 : RowV w a0 (fvals e)) (h1 : RowV w a1 (fvals x)) (h2 : RowV w a2 (fvals y)) (m0 : e.length ≤ maxLen) (m1 : x.length ≤ maxLen) (m2 : y.length ≤ maxLen) (hfb : fieldB wd hi wb xs ys e x y = false) :
    Calls Try.prog 80 #[.agg #[.int .i64 wd, .int .i64 hi, .bool wb, .slice a xs.length ca, .slice b ys.length cb], .agg #[.slice a0 e.length c0, .slice a1 x.length c1, .slice a2 y.length c2]] w fun r w' => r = .returned (.tuple #[.agg #[.slice none 0 0, .slice none 0 0, .slice none 0 0], .bool false]) ∧ Below w.heap.size w w' := by
  have HFB := Lib.hid hfb; clear hfb
  have X := Blk.new w #[.int .i64 wd, .int .i64 hi, .bool wb, .slice a xs.length ca, .slice b ys.length cb] 29
  have Y := Blk.new1 w (.cells #[.int .i64 wd, .int .i64 hi, .bool wb, .slice a xs.length ca, .slice b ys.length cb] 29) #[.slice a0 e.length c0, .slice a1 x.length c1, .slice a2 y.length c2] 38
  replace X := X.alloc (.cells #[.slice a0 e.length c0, .slice a1 x.length c1, .slice a2 y.length c2] 38)
  have R := Blk.new2 w (.cells #[.int .i64 wd, .int .i64 hi, .bool wb, .slice a xs.length ca, .slice b ys.length cb] 29) (.cells #[.slice a0 e.length c0, .slice a1 x.length c1, .slice a2 y.length c2] 38) #[.slice none 0 0, .slice none 0 0, .slice none 0 0] 38
  replace X := X.alloc (.cells #[.slice none 0 0, .slice none 0 0, .slice none 0 0] 38)
  replace Y := Y.alloc (.cells #[.slice none 0 0, .slice none 0 0, .slice none 0 0] 38)
  have HB : Hid (Below w.heap.size w (((w.alloc (.cells #[.int .i64 wd, .int .i64 hi, .bool wb, .slice a xs.length ca, .slice b ys.length cb] 29)).alloc (.cells #[.slice a0 e.length c0, .slice a1 x.length c1, .slice a2 y.length c2] 38)).alloc (.cells #[.slice none 0 0, .slice none 0 0, .slice none 0 0] 38))) := Lib.hid ((((Below.refl w.heap.size w).alloc (by simp <;> omega) _).alloc (by simp <;> omega) _).alloc (by simp <;> omega) _)
  go_enter Try.func80, Try.ntmps80
  go_wp2_with fail
  generalize (((w.alloc (.cells #[.int .i64 wd, .int .i64 hi, .bool wb, .slice a xs.length ca, .slice b ys.length cb] 29)).alloc (.cells #[.slice a0 e.length c0, .slice a1 x.length c1, .slice a2 y.length c2] 38)).alloc (.cells #[.slice none 0 0, .slice none 0 0, .slice none 0 0] 38)) = u1 at *
  refine (implIsField _ _ _ _ _ _ _ _ _ _ _ _ _ _ _ _ _ _ _ (ha.later HB.out) (hb.later HB.out) hx hy (h0.later HB.out) (h1.later HB.out) (h2.later HB.out) m0 m1 m2).mono ?_
  rintro r u2 ⟨rfl, q⟩
  replace X := X.later q
  replace Y := Y.later q
  replace R := R.later q
  replace HB := Lib.hid (HB.out.trans (q.mono HB.out.size))
  clear q
  rw [HFB.out]
  obtain ⟨Yc, Yf⟩ := Y.open
  obtain ⟨Rc, Rf⟩ := R.open
  go_wp2
  exact bodyPost_ret (v := .tuple #[.agg #[.slice none 0 0, .slice none 0 0, .slice none 0 0], .bool false]) (by simp [results, Try.results80, go_sem, Rc]) rfl ⟨rfl, (((HB.out.setCell (p := ⟨w.heap.size + 1 + 1, 0, none⟩) (by simp <;> omega) _).setCell (p := ⟨w.heap.size + 1 + 1, 1, none⟩) (by simp <;> omega) _).setCell (p := ⟨w.heap.size + 1 + 1, 2, none⟩) (by simp <;> omega) _)⟩

def scaleB (wd hi : Int) (wb : Bool) (xs ys e x y : List Nat) (by_ : Nat) : Bool := fieldB wd hi wb xs ys e x y && fitsB wd hi wb (repC (mulC e by_)) (repC (mulC x by_)) (repC (mulC y by_))

def GaveO (w : World) (b : Bool) (m0 m1 m2 : List (Option Nat)) (r : Ending) (w' : World) : Prop :=
  ∃ (a0 a1 a2 : Option Addr) (c0 c1 c2 : Nat) (y0 y1 y2 : List Nat), r = .returned (.tuple #[.agg #[.slice a0 y0.length c0, .slice a1 y1.length c1, .slice a2 y2.length c2], .bool b]) ∧ GotField w.heap.size w w' (ifO b m0) (ifO b m1) (ifO b m2) a0 a1 a2 y0 y1 y2
def OwnO (w : World) (b : Bool) (m0 m1 m2 : List (Option Nat)) (r : Ending) (w' : World) : Prop :=
  ∃ (a0 a1 a2 : Option Addr) (c0 c1 c2 : Nat) (y0 y1 y2 : List Nat), r = .returned (.tuple #[.agg #[.slice a0 y0.length c0, .slice a1 y1.length c1, .slice a2 y2.length c2], .bool b]) ∧ OwnField w w' (ifO b m0) (ifO b m1) (ifO b m2) a0 a1 a2 y0 y1 y2

/-- a list behind k products, the rest as it was -/
def MulAt (xs : List Nat) (by_ : Nat) (k : Nat) (L : List Nat) : Prop := MulTo xs by_ k L ∧ ∀ j, k ≤ j → L[j]? = xs[j]?

theorem mulAt_start {xs : List Nat} (by_ : Nat) (h : ∀ z ∈ xs, z < 2 ^ 32) : MulAt xs by_ 0 xs := ⟨⟨rfl, h, fun j _ _ hj => by omega⟩, fun j _ => rfl⟩
theorem mulAt_next {xs : List Nat} {by_ k : Nat} {L : List Nat} {v : Nat} (h : MulAt xs by_ k L) (hk : k < L.length) (hv : v < 2 ^ 32) (hc : canon .f32 v = fop .mul .f32 (canon .f32 L[k]) (canon .f32 by_)) : MulAt xs by_ (k + 1) (L.set k v) := by
  have hx : k < xs.length := by rw [← h.1.1]; exact hk
  have e : L[k] = xs[k] := by
    have := h.2 k (Nat.le_refl _)
    rw [List.getElem?_eq_getElem hk, List.getElem?_eq_getElem hx] at this
    injection this
  rw [e] at hc
  refine ⟨mulTo_next h.1 hx hv hc, fun j hj => ?_⟩
  rw [List.getElem?_set, if_neg (by omega)]
  exact h.2 j (by omega)

end Go.Proofs.Ytedfbaeajofmnaa

end
