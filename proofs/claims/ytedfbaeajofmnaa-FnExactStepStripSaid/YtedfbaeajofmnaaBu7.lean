/- Several texts in one: facts on floats, lists, memory and the functions that the theorems beside this text use. Conditions: none beyond those of each theorem. -/
import Derived.Test.YtedfbaeajofmnaaBu2
import Derived.Test.YtedfbaeajofmnaaBu4
import Derived.Test.YtedfbaeajofmnaaBu5
import Derived.Test.YtedfbaeajofmnaaBu1

set_option linter.unusedVariables false

section

namespace Go.Proofs.Ytedfbaeajofmnaa
open Go Ieee Go.RowKit
set_option linter.unusedVariables false

/-- n numbers of a list, at the places f 0, f 1 and so on -/
def placed (f : Nat → Nat) (n : Nat) (xs : List Nat) : List Nat := (List.range n).map fun i => xs.getD (f i) 0

theorem placed_length (f : Nat → Nat) (n : Nat) (xs : List Nat) : (placed f n xs).length = n := by simp [placed]

theorem getD_lt {xs : List Nat} (h : ∀ x ∈ xs, x < 2 ^ 32) (i : Nat) : xs.getD i 0 < 2 ^ 32 := by
  by_cases hi : i < xs.length
  · rw [List.getD_eq_getElem?_getD, List.getElem?_eq_getElem hi, Option.getD_some]
    exact h _ (List.getElem_mem _)
  · rw [List.getD_eq_getElem?_getD, List.getElem?_eq_none (by omega), Option.getD_none]
    decide

theorem placed_lt {f : Nat → Nat} {n : Nat} {xs : List Nat} (h : ∀ x ∈ xs, x < 2 ^ 32) : ∀ y ∈ placed f n xs, y < 2 ^ 32 := by
  intro y hy
  unfold placed at hy
  obtain ⟨i, _, rfl⟩ := List.mem_map.1 hy
  exact getD_lt h _

theorem placed_succ (f : Nat → Nat) (n : Nat) (xs : List Nat) : placed f (n + 1) xs = placed f n xs ++ [xs.getD (f n) 0] := by
  unfold placed; rw [List.range_succ, List.map_append]; rfl

theorem placed_zero (f : Nat → Nat) (xs : List Nat) : placed f 0 xs = [] := rfl

theorem placed_congr {f g : Nat → Nat} {n : Nat} (h : ∀ i, i < n → f i = g i) (xs : List Nat) : placed f n xs = placed g n xs := by
  unfold placed
  exact List.map_congr_left fun i hi => by rw [h i (List.mem_range.1 hi)]

/-- numbers with the opposite signs -/
def turned (xs : List Nat) : List Nat := xs.map (Op.negFloat .f32)

theorem turned_length (xs : List Nat) : (turned xs).length = xs.length := by simp [turned]

theorem turned_snoc (xs : List Nat) (x : Nat) : turned (xs ++ [x]) = turned xs ++ [Op.negFloat .f32 x] := by simp [turned]

/-- the first k numbers are G's, the others are those of the list -/
def mixed (G : Nat → Nat) (xs : List Nat) (k : Nat) : List Nat := (List.range k).map G ++ xs.drop k

theorem mixed_zero (G : Nat → Nat) (xs : List Nat) : mixed G xs 0 = xs := by simp [mixed]

theorem mixed_length (G : Nat → Nat) (xs : List Nat) {k : Nat} (h : k ≤ xs.length) : (mixed G xs k).length = xs.length := by simp [mixed]; omega

theorem mixed_all (G : Nat → Nat) (xs : List Nat) : mixed G xs xs.length = (List.range xs.length).map G := by simp [mixed]

theorem mixed_next (G : Nat → Nat) (xs : List Nat) {k : Nat} (h : k < xs.length) : (mixed G xs k).set k (G k) = mixed G xs (k + 1) := by
  unfold mixed
  apply List.ext_getElem?
  intro j
  have hl : ((List.range k).map G ++ xs.drop k).length = xs.length := by simp; omega
  rw [List.getElem?_set]
  by_cases hj : k = j
  · subst hj
    rw [if_pos rfl, hl, if_pos h, List.getElem?_append_left (by simp)]
    simp
  · rw [if_neg hj]
    by_cases h2 : j < k
    · rw [List.getElem?_append_left (by simp; omega), List.getElem?_append_left (by simp; omega)]
      simp [h2, show j < k + 1 by omega]
    · rw [List.getElem?_append_right (by simp; omega), List.getElem?_append_right (by simp; omega)]
      simp only [List.length_map, List.length_range, List.getElem?_drop]
      congr 1
      omega

theorem mixed_old (G : Nat → Nat) (xs : List Nat) {k j : Nat} (h : k ≤ j) (hj : j < xs.length) : (mixed G xs k).getD j 0 = xs.getD j 0 := by
  unfold mixed
  rw [List.getD_eq_getElem?_getD, List.getElem?_append_right (by simp; omega), List.getD_eq_getElem?_getD]
  simp only [List.length_map, List.length_range, List.getElem?_drop]
  congr 2
  omega

theorem neg_lt {x : Nat} (h : x < 2 ^ 32) : Op.negFloat .f32 x < 2 ^ 32 := by
  unfold Op.negFloat
  exact Nat.xor_lt_two_pow h (by decide)

theorem turned_lt {xs : List Nat} (h : ∀ x ∈ xs, x < 2 ^ 32) : ∀ y ∈ turned xs, y < 2 ^ 32 := by
  intro y hy
  obtain ⟨x, hx, rfl⟩ := List.mem_map.1 hy
  exact neg_lt (h x hx)

theorem turned_eq (xs : List Nat) : turned xs = (List.range xs.length).map fun i => Op.negFloat .f32 (xs.getD i 0) := by
  unfold turned
  apply List.ext_getElem
  · simp
  · intro i h1 h2
    simp at h1
    simp [h1]

end Go.Proofs.Ytedfbaeajofmnaa

end

section

namespace Go.Proofs.Ytedfbaeajofmnaa
open Go Ieee Go.RowKit
set_option linter.unusedVariables false

def ifI (b : Bool) (v : Int) : Int := if b then v else 0
def ifB (b : Bool) (v : Bool) : Bool := if b then v else false
def ifL (b : Bool) (m : List Nat) : List (Option Nat) := if b then cl m else []

def mirF (wd : Int) (i : Nat) : Nat := (wd - 1 - (i : Int) % wd + wd * ((i : Int) / wd)).toNat
def gapF (wd : Int) (i : Nat) : Nat := ((wd - 2 - (i : Int) % wd) % wd + wd * ((i : Int) / wd)).toNat
def swpF (wd hi : Int) (i : Nat) : Nat := ((i : Int) / hi + wd * ((i : Int) % hi)).toNat
def shfF (wd hi dx dy : Int) (i : Nat) : Nat := (((i : Int) % wd - dx) % wd + wd * (((i : Int) / wd - dy) % hi)).toNat

theorem cell_lt {wd hi x y : Int} {n : Nat} (hn : wd * hi = n) (h0 : 0 ≤ x) (h1 : x < wd) (h2 : 0 ≤ y) (h3 : y < hi) : 0 ≤ x + wd * y ∧ x + wd * y < n := by
  have a := Int.mul_nonneg (show 0 ≤ wd by omega) h2
  have b := Int.mul_le_mul_of_nonneg_left (show y + 1 ≤ hi by omega) (show 0 ≤ wd by omega)
  rw [Int.mul_add, Int.mul_one] at b
  omega

theorem toNat_place {e : Int} {n : Nat} (h : 0 ≤ e ∧ e < n) : ((e.toNat : Nat) : Int) = e ∧ e.toNat < n := by omega

theorem split_in {wm hm : Int} {n k : Nat} (s1 : 3 ≤ wm) (hn : wm * hm = n) (hk : k < n) : 0 ≤ (k : Int) % wm ∧ (k : Int) % wm < wm ∧ 0 ≤ (k : Int) / wm ∧ (k : Int) / wm < hm :=
  ⟨Int.emod_nonneg _ (by omega), Int.emod_lt_of_pos _ (by omega), Int.ediv_nonneg (by omega) (by omega), Int.ediv_lt_of_lt_mul (by omega) (by rw [Int.mul_comm hm wm, hn]; omega)⟩

theorem of_cell {wm : Int} {j m k : Nat} (hm : (m : Int) < wm) (hj : (j : Int) = m + wm * k) : (j : Int) % wm = m ∧ (j : Int) / wm = k := by
  rw [hj]
  constructor
  · rw [Int.add_mul_emod_self_left, Int.emod_eq_of_lt (by omega) hm]
  · rw [Int.add_mul_ediv_left _ _ (by omega), Int.ediv_eq_zero_of_lt (by omega) hm, Int.zero_add]

theorem cell_below {wm hm : Int} {n j m k : Nat} (hn : wm * hm = n) (h1 : (m : Int) < wm) (h2 : (k : Int) < hm) (hj : (j : Int) = m + wm * k) : j < n := by
  have := cell_lt hn (Int.natCast_nonneg m) h1 (Int.natCast_nonneg k) h2
  omega

/-! ### As the program takes them -/
theorem mirF_impl {wd hi : Int} {n : Nat} (s1 : 3 ≤ wd) (hn : wd * hi = n) : ∀ k : Nat, k < n → (mirF wd k : Int) = wd - 1 - (k : Int) % wd + wd * ((k : Int) / wd) ∧ mirF wd k < n := by
  intro k hk
  obtain ⟨a, b, c, d⟩ := split_in s1 hn hk
  exact toNat_place (cell_lt hn (by omega) (by omega) c d)

theorem gapF_impl {wd hi : Int} {n : Nat} (s1 : 3 ≤ wd) (hn : wd * hi = n) : ∀ k : Nat, k < n → (gapF wd k : Int) = (wd - 2 - (k : Int) % wd) % wd + wd * ((k : Int) / wd) ∧ gapF wd k < n := by
  intro k hk
  obtain ⟨a, b, c, d⟩ := split_in s1 hn hk
  exact toNat_place (cell_lt hn (Int.emod_nonneg _ (by omega)) (Int.emod_lt_of_pos _ (by omega)) c d)

theorem swpF_impl {wd hi : Int} {n : Nat} (s3 : 3 ≤ hi) (hn : wd * hi = n) : ∀ k : Nat, k < n → (swpF wd hi k : Int) = (k : Int) / hi + wd * ((k : Int) % hi) ∧ swpF wd hi k < n := by
  intro k hk
  obtain ⟨a, b, c, d⟩ := split_in s3 (by rw [Int.mul_comm]; exact hn) hk
  exact toNat_place (cell_lt hn c d a b)

theorem shfF_impl {wd hi dx dy : Int} {n : Nat} (s1 : 3 ≤ wd) (s3 : 3 ≤ hi) (hn : wd * hi = n) : ∀ k : Nat, k < n → (shfF wd hi dx dy k : Int) = ((k : Int) % wd - dx) % wd + wd * (((k : Int) / wd - dy) % hi) ∧ shfF wd hi dx dy k < n := by
  intro k hk
  exact toNat_place (cell_lt hn (Int.emod_nonneg _ (by omega)) (Int.emod_lt_of_pos _ (by omega)) (Int.emod_nonneg _ (by omega)) (Int.emod_lt_of_pos _ (by omega)))

/-! ### As the model takes them -/
theorem mirF_spec {wd hi : Int} {n : Nat} (s1 : 3 ≤ wd) (hn : wd * hi = n) : ∀ j m k : Nat, (m : Int) < wd → (k : Int) < hi → (j : Int) = m + wd * k → (mirF wd j : Int) = wd - 1 - (m : Int) + wd * (k : Int) ∧ mirF wd j < n := by
  intro j m k h1 h2 hj
  obtain ⟨e1, e2⟩ := of_cell h1 hj
  have := mirF_impl s1 hn j (cell_below hn h1 h2 hj)
  rwa [e1, e2] at this

theorem gapF_spec {wd hi : Int} {n : Nat} (s1 : 3 ≤ wd) (hn : wd * hi = n) : ∀ j m k : Nat, (m : Int) < wd → (k : Int) < hi → (j : Int) = m + wd * k → (gapF wd j : Int) = (2 * wd - 2 - (m : Int)) % wd + wd * (k : Int) ∧ gapF wd j < n := by
  intro j m k h1 h2 hj
  obtain ⟨e1, e2⟩ := of_cell h1 hj
  have := gapF_impl s1 hn j (cell_below hn h1 h2 hj)
  rw [e1, e2] at this
  have e : (2 * wd - 2 - (m : Int)) % wd = (wd - 2 - (m : Int)) % wd := by
    rw [show 2 * wd - 2 - (m : Int) = (wd - 2 - (m : Int)) + wd by omega, Int.add_emod_right]
  rwa [e]

theorem swpF_spec {wd hi : Int} {n : Nat} (s3 : 3 ≤ hi) (hn : wd * hi = n) : ∀ j m k : Nat, (m : Int) < hi → (k : Int) < wd → (j : Int) = m + hi * k → (swpF wd hi j : Int) = (k : Int) + wd * (m : Int) ∧ swpF wd hi j < n := by
  intro j m k h1 h2 hj
  obtain ⟨e1, e2⟩ := of_cell h1 hj
  have := swpF_impl s3 hn j (cell_below (by rw [Int.mul_comm]; exact hn) h1 h2 hj)
  rwa [e1, e2] at this

theorem shfF_spec {wd hi dx dy : Int} {n : Nat} (s1 : 3 ≤ wd) (s3 : 3 ≤ hi) (hn : wd * hi = n) : ∀ j m k : Nat, (m : Int) < wd → (k : Int) < hi → (j : Int) = m + wd * k → (shfF wd hi dx dy j : Int) = ((m : Int) - dx.tmod wd) % wd + wd * (((k : Int) - dy.tmod hi) % hi) ∧ shfF wd hi dx dy j < n := by
  intro j m k h1 h2 hj
  obtain ⟨e1, e2⟩ := of_cell h1 hj
  have := shfF_impl (dx := dx) (dy := dy) s1 s3 hn j (cell_below hn h1 h2 hj)
  rw [e1, e2] at this
  have e : ∀ (a b s : Int), (a - b.tmod s) % s = (a - b) % s := fun a b s => by
    rw [Int.sub_emod, Int.tmod_def, Int.sub_mul_emod_self_left, ← Int.sub_emod]
  rwa [e, e]

/-- what a valid sheet has -/
theorem valid_parts {wd hi : Int} {xs ys : List Nat} (h : validB wd hi xs ys = true) : 3 ≤ wd ∧ wd ≤ 16 ∧ 3 ≤ hi ∧ hi ≤ 16 ∧ wd * hi ≤ 256 ∧ (xs.length : Int) = wd * hi ∧ (ys.length : Int) = wd * hi := by
  obtain ⟨a, b, c, d, e, f⟩ := sides_mul (valid_sides h)
  unfold validB at h
  simp only [Bool.and_eq_true, decide_eq_true_eq] at h
  exact ⟨a, b, c, d, f, h.2.1, h.2.2.1⟩

theorem is_placed {f : Nat → Nat} {n : Nat} {xs : List Nat} (h : ∀ x ∈ xs, x < 2 ^ 32) (n256 : n ≤ 256) : Is (placed f n xs) (cl (placed f n xs)) :=
  Is.refl (placed_lt h) (by rw [placed_length]; exact n256)

theorem is_turned {f : Nat → Nat} {n : Nat} {xs : List Nat} (h : ∀ x ∈ xs, x < 2 ^ 32) (n256 : n ≤ 256) : Is (turned (placed f n xs)) (cl (turned (placed f n xs))) :=
  Is.refl (turned_lt (placed_lt h)) (by rw [turned_length, placed_length]; exact n256)

end Go.Proofs.Ytedfbaeajofmnaa

end

section

namespace Go.Proofs.Ytedfbaeajofmnaa
open Go Ieee Go.RowKit
set_option linter.unusedVariables false

/-- what a loop has appended so far, in memory of its own -/
def Outs (w wr : World) (v : Value) (n : Nat) (zs : List Nat) : Prop := zs.length = n ∧ wr.ownsRow w.heap.size 102 1 v n (fvals zs) ∧ Below w.heap.size w wr

/-- a list of the call's own that is handed back -/
def GotL (w : World) (n : Nat) (zs : List Nat) (r : Ending) (w' : World) : Prop := ∃ a c, r = .returned (.slice a n c) ∧ OwnV w' w.heap.size a (fvals zs) ∧ Below w.heap.size w w'

theorem outs_start (w : World) : Outs w (w.alloc (.cells #[] 102)) (.slice (some ⟨w.heap.size, 0, none⟩) 0 0) 0 [] :=
  ⟨rfl, World.ownsRow_made w #[] 0 (Nat.le_refl _) (by decide) rfl, (Below.refl _ _).alloc (Nat.le_refl _) _⟩

theorem outs_next {w wr w1 : World} {v v' : Value} {n : Nat} {zs : List Nat} {z : Nat} {ob : Obj} (h : Outs w wr v n zs) (ho : w1.ownsRow w.heap.size 102 1 v' (n + 1) (fvals zs ++ [.float .f32 z])) (hg : (wr.alloc ob).grownBy w1 v.ownBlock) : Outs w w1 v' (n + 1) (zs ++ [z]) := by
  refine ⟨by simp [h.1], ?_, ?_⟩
  · have e : fvals (zs ++ [z]) = fvals zs ++ [.float .f32 z] := by unfold fvals; rw [List.map_append]; rfl
    rw [e]; exact ho
  · have hz := h.2.2.size
    exact (h.2.2.alloc hz ob).grown hg (by simp; omega) (fun k hk => (h.2.1.lt k hk).1)

theorem outs_end {w wr : World} {v : Value} {n : Nat} {zs : List Nat} (h : Outs w wr v n zs) (hn : 0 < n) : ∃ a c, v = .slice a n c ∧ OwnV wr w.heap.size a (fvals zs) ∧ Below w.heap.size w wr := by
  rcases h.2.1.2 with ⟨_, h0⟩ | ⟨g, cap, cur, hv, _⟩
  · omega
  · subst hv
    exact ⟨_, cap, rfl, OwnV.of_owned h.2.1, h.2.2⟩

theorem row_next {wd : Int} {m k j : Nat} (h : (j : Int) = m + wd * k) (e : (m : Int) = wd) : (j : Int) = wd * ((k + 1 : Nat) : Int) := by
  have h1 : wd * ((k + 1 : Nat) : Int) = wd * k + wd := by rw [Int.natCast_add, Int.mul_add]; simp
  omega

theorem one_news (wr : World) (z : Nat) : ∀ (j : Nat) (u : Value), [Value.float .f32 z][j]? = some u → (wr.alloc (.cells #[.float .f32 z] 102)).cell? ((⟨wr.heap.size, 0, none⟩ : Addr).add j) = some u := by
  intro j u hu
  cases j with
  | zero => simp at hu; subst hu; exact (Blk.new wr #[.float .f32 z] 102).open.1 0
  | succ j => simp at hu

theorem one_cells (z : Nat) : ∀ u ∈ [Value.float .f32 z], u.oneCell' = true := by
  intro u hu; simp at hu; subst hu; rfl

end Go.Proofs.Ytedfbaeajofmnaa

end
