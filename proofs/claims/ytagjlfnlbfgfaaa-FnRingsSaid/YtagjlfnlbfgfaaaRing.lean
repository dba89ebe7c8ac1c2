/- The probes around a cell: facts, lists that grow, and the program's and the model's answers. Conditions: none beyond those of each theorem. -/
import Derived.Test.YtagjlfnlbfgfaaaBu11
import Derived.Test.YtagjlfnlbfgfaaaBu14
namespace Go.Proofs.Ytagjlfnlbfgfaaa
open Go Ieee Go.RowKit
set_option linter.unusedVariables false

/-- the cell with an index is so far away -/
def ringP (wd x y far : Int) (j : Nat) : Bool := decide (max (max ((j : Int) % wd - x) (x - (j : Int) % wd)) (max ((j : Int) / wd - y) (y - (j : Int) / wd)) = far)

def ringN (wd x y far : Int) : Nat → List (Int × Int)
  | 0 => []
  | j + 1 => if ringP wd x y far j then ringN wd x y far j ++ [((j : Int) % wd, (j : Int) / wd)] else ringN wd x y far j

theorem ringN_yes {wd x y far : Int} {j : Nat} (h : ringP wd x y far j = true) : ringN wd x y far (j + 1) = ringN wd x y far j ++ [((j : Int) % wd, (j : Int) / wd)] := by
  conv => lhs; unfold ringN
  rw [h]; rfl
theorem ringN_no {wd x y far : Int} {j : Nat} (h : ringP wd x y far j = false) : ringN wd x y far (j + 1) = ringN wd x y far j := by
  conv => lhs; unfold ringN
  rw [h]; rfl

theorem ringN_len (wd x y far : Int) (j : Nat) : (ringN wd x y far j).length ≤ j := by
  induction j with
  | zero => simp [ringN]
  | succ j ih =>
    cases h : ringP wd x y far j
    · rw [ringN_no h]; omega
    · rw [ringN_yes h, List.length_append]; simp; omega

theorem ringN_skip {wd x y far : Int} {a : Nat} (k : Nat) (h : ∀ j, a ≤ j → j < a + k → ringP wd x y far j = false) : ringN wd x y far (a + k) = ringN wd x y far a := by
  induction k with
  | zero => rfl
  | succ k ih =>
    rw [← Nat.add_assoc, ringN_no (h (a + k) (by omega) (by omega))]
    exact ih (fun j h1 h2 => h j h1 (by omega))

theorem ringN_to {wd x y far : Int} {a b : Nat} (hab : a ≤ b) (h : ∀ j, a ≤ j → j < b → ringP wd x y far j = false) : ringN wd x y far b = ringN wd x y far a := by
  obtain ⟨k, rfl⟩ := Nat.exists_eq_add_of_le hab
  exact ringN_skip k h

theorem div_mod {wd : Int} (hw : 0 < wd) {j v u : Int} (h : j = wd * v + u) (h0 : 0 ≤ u) (h1 : u < wd) : j % wd = u ∧ j / wd = v := by
  have := (Int.ediv_emod_unique hw (a := j) (r := u) (q := v)).2 ⟨by omega, h0, h1⟩
  exact ⟨this.2, this.1⟩

/-- how many cells lie before the place u of the row v -/
def idx (wd hi v u : Int) : Int := if v < 0 then 0 else if hi ≤ v then wd * hi else wd * v + (if u < 0 then 0 else if wd ≤ u then wd else u)

theorem idx_nonneg {wd hi : Int} (hw : 0 < wd) (hh : 0 < hi) (v u : Int) : 0 ≤ idx wd hi v u := by
  have a : 0 ≤ wd * hi := Int.mul_nonneg (by omega) (by omega)
  unfold idx
  split
  · omega
  · split
    · exact a
    · have b : 0 ≤ wd * v := Int.mul_nonneg (by omega) (by omega)
      split <;> (try split) <;> omega

theorem idx_out {wd hi v u : Int} (hw : 0 < wd) (h : ¬ (0 ≤ u ∧ u < wd ∧ 0 ≤ v ∧ v < hi)) : idx wd hi v (u + 1) = idx wd hi v u := by
  unfold idx
  by_cases h1 : v < 0
  · rw [if_pos h1, if_pos h1]
  · by_cases h2 : hi ≤ v
    · rw [if_neg h1, if_neg h1, if_pos h2, if_pos h2]
    · rw [if_neg h1, if_neg h1, if_neg h2, if_neg h2]
      congr 1
      split <;> split <;> (try split) <;> (try split) <;> omega

theorem ring_in {wd hi x y far v u : Int} (hw : 0 < wd) (h0 : 0 ≤ u) (h1 : u < wd) (h2 : 0 ≤ v) (h3 : v < hi) :
    (idx wd hi v (u + 1)).toNat = (idx wd hi v u).toNat + 1 ∧ (((idx wd hi v u).toNat : Nat) : Int) % wd = u ∧ (((idx wd hi v u).toNat : Nat) : Int) / wd = v := by
  have b : 0 ≤ wd * v := Int.mul_nonneg (by omega) h2
  have e1 : idx wd hi v u = wd * v + u := by
    unfold idx
    rw [if_neg (by omega), if_neg (by omega), if_neg (by omega), if_neg (by omega)]
  have e2 : idx wd hi v (u + 1) = wd * v + u + 1 := by
    unfold idx
    rw [if_neg (by omega), if_neg (by omega), if_neg (by omega)]
    split <;> omega
  have e3 : (((idx wd hi v u).toNat : Nat) : Int) = wd * v + u := by rw [e1]; omega
  rw [e3]
  refine ⟨by rw [e1, e2]; omega, div_mod hw rfl h0 h1⟩

theorem mul_row {wd v q : Int} (hw : 0 < wd) (h : wd * v ≤ wd * q + (wd - 1)) : v ≤ q := by
  by_cases a : v ≤ q
  · exact a
  · exfalso
    have := Int.mul_le_mul_of_nonneg_left (show q + 1 ≤ v by omega) (show 0 ≤ wd by omega)
    rw [Int.mul_add, Int.mul_one] at this
    omega

/-- no cell between two places counts: those that lie too far to one side -/
theorem ring_gap {wd x y far : Int} {a b : Nat} (hw : 0 < wd) (hab : a ≤ b) (h : ∀ j v u : Int, (a : Int) ≤ j → j < (b : Int) → j = wd * v + u → 0 ≤ u → u < wd → max (max (u - x) (x - u)) (max (v - y) (y - v)) ≠ far) : ringN wd x y far b = ringN wd x y far a := by
  refine ringN_to hab fun j h1 h2 => ?_
  unfold ringP
  rw [decide_eq_false]
  have hd := Int.mul_ediv_add_emod (j : Int) wd
  exact h j ((j : Int) / wd) ((j : Int) % wd) (by omega) (by omega) hd.symm (Int.emod_nonneg _ (by omega)) (Int.emod_lt_of_pos _ hw)

theorem ring_rowstart {wd hi x y far v : Int} (hw : 0 < wd) (hh : 0 < hi) (hf : 1 ≤ far) (hx : 0 ≤ x ∧ x < wd) : ringN wd x y far (idx wd hi v (x - far)).toNat = ringN wd x y far (idx wd hi v 0).toNat := by
  by_cases hv : 0 ≤ v ∧ v < hi
  · have b : 0 ≤ wd * v := Int.mul_nonneg (by omega) hv.1
    have e0 : idx wd hi v 0 = wd * v := by unfold idx; rw [if_neg (by omega), if_neg (by omega), if_neg (by omega), if_neg (by omega)]; omega
    have e1 : idx wd hi v (x - far) = wd * v + (if x - far < 0 then 0 else x - far) := by
      unfold idx; rw [if_neg (by omega), if_neg (by omega)]; congr 1; split
      · rfl
      · rw [if_neg (by omega)]
    refine ring_gap hw (by rw [e0, e1]; split <;> omega) fun j q u h1 h2 hj hu0 hu1 => ?_
    rw [e0] at h1
    rw [e1] at h2
    have c1 : v ≤ q := mul_row hw (by omega)
    have c2 : q ≤ v := mul_row hw (by split at h2 <;> omega)
    have : q = v := by omega
    subst this
    split at h2 <;> omega
  · congr 2
    unfold idx
    by_cases h1 : v < 0
    · rw [if_pos h1, if_pos h1]
    · rw [if_neg h1, if_neg h1, if_pos (by omega), if_pos (by omega)]

theorem ring_rowend {wd hi x y far v : Int} (hw : 0 < wd) (hh : 0 < hi) (hf : 1 ≤ far) (hx : 0 ≤ x ∧ x < wd) : ringN wd x y far (idx wd hi (v + 1) 0).toNat = ringN wd x y far (idx wd hi v (x + far + 1)).toNat := by
  by_cases hv : 0 ≤ v ∧ v < hi
  · have b : 0 ≤ wd * v := Int.mul_nonneg (by omega) hv.1
    have e0 : idx wd hi (v + 1) 0 = wd * v + wd := by
      unfold idx
      rw [if_neg (by omega)]
      split
      · have : hi = v + 1 := by omega
        rw [this, Int.mul_add, Int.mul_one]
      · rw [if_neg (by omega), if_neg (by omega), Int.mul_add, Int.mul_one]; omega
    have e1 : idx wd hi v (x + far + 1) = wd * v + (if wd ≤ x + far + 1 then wd else x + far + 1) := by
      unfold idx; rw [if_neg (by omega), if_neg (by omega), if_neg (by omega)]
    refine ring_gap hw (by rw [e0, e1]; split <;> omega) fun j q u h1 h2 hj hu0 hu1 => ?_
    rw [e1] at h1
    rw [e0] at h2
    have c1 : v ≤ q := mul_row hw (by split at h1 <;> omega)
    have c2 : q ≤ v := mul_row hw (by omega)
    have : q = v := by omega
    subst this
    split at h1 <;> omega
  · congr 2
    unfold idx
    by_cases h1 : v < 0
    · rw [if_pos h1]
      by_cases h2 : v + 1 < 0
      · rw [if_pos h2]
      · have : v + 1 = 0 := by omega
        rw [this, if_neg (by omega), if_neg (by omega), if_neg (by omega), if_neg (by omega)]; simp
    · rw [if_neg h1, if_neg (by omega), if_pos (by omega), if_pos (by omega)]

theorem ring_init {wd hi x y far : Int} (hw : 0 < wd) (hh : 0 < hi) (hf : 1 ≤ far) (hy : 0 ≤ y ∧ y < hi) : ringN wd x y far (idx wd hi (y - far) 0).toNat = [] := by
  show _ = ringN wd x y far 0
  refine ring_gap hw (Nat.zero_le _) fun j q u h1 h2 hj hu0 hu1 => ?_
  by_cases hv : y - far < 0
  · have : idx wd hi (y - far) 0 = 0 := by unfold idx; rw [if_pos hv]
    rw [this] at h2; simp at h2; omega
  · have b : 0 ≤ wd * (y - far) := Int.mul_nonneg (by omega) (by omega)
    have e : idx wd hi (y - far) 0 = wd * (y - far) := by unfold idx; rw [if_neg hv, if_neg (by omega), if_neg (by omega), if_neg (by omega)]; omega
    rw [e] at h2
    have c : q < y - far := by
      by_cases a : q < y - far
      · exact a
      · exfalso
        have := Int.mul_le_mul_of_nonneg_left (show y - far ≤ q by omega) (show 0 ≤ wd by omega)
        omega
    omega

theorem ring_end {wd hi x y far : Int} (hw : 0 < wd) (hh : 0 < hi) (hf : 1 ≤ far) (hy : 0 ≤ y ∧ y < hi) : ringN wd x y far (wd * hi).toNat = ringN wd x y far (idx wd hi (y + far + 1) 0).toNat := by
  by_cases hv : hi ≤ y + far + 1
  · congr 2
    unfold idx
    rw [if_neg (by omega), if_pos hv]
  · have b : 0 ≤ wd * (y + far + 1) := Int.mul_nonneg (by omega) (by omega)
    have c0 := Int.mul_le_mul_of_nonneg_left (show y + far + 1 ≤ hi by omega) (show 0 ≤ wd by omega)
    have e : idx wd hi (y + far + 1) 0 = wd * (y + far + 1) := by unfold idx; rw [if_neg (by omega), if_neg hv, if_neg (by omega), if_neg (by omega)]; omega
    refine ring_gap hw (by rw [e]; omega) fun j q u h1 h2 hj hu0 hu1 => ?_
    rw [e] at h1
    have c : y + far + 1 ≤ q := mul_row hw (by omega)
    omega

theorem ring_inside {wd hi x y far v u : Int} (hw : 0 < wd) (ha : x - far ≤ u) (hb : u ≤ x + far) (hc : y - far ≤ v) (hd : v ≤ y + far) (h1 : v ≠ y - far) (h2 : v ≠ y + far) (h3 : u ≠ x - far) (h4 : u ≠ x + far) : ringN wd x y far (idx wd hi v (u + 1)).toNat = ringN wd x y far (idx wd hi v u).toNat := by
  by_cases hin : 0 ≤ u ∧ u < wd ∧ 0 ≤ v ∧ v < hi
  · obtain ⟨e1, e2, e3⟩ := ring_in (x := x) (y := y) (far := far) hw hin.1 hin.2.1 hin.2.2.1 hin.2.2.2
    rw [e1, ringN_no (by unfold ringP; rw [e2, e3]; exact decide_eq_false (by omega))]
  · rw [idx_out hw hin]

theorem ring_outside {wd hi x y far v u : Int} (hw : 0 < wd) (h : cellB wd hi u v = false) : ringN wd x y far (idx wd hi v (u + 1)).toNat = ringN wd x y far (idx wd hi v u).toNat := by
  rw [idx_out hw (fun hin => by unfold cellB at h; rw [decide_eq_true (by omega), decide_eq_true (by omega)] at h; cases h)]

theorem ring_add {wd hi x y far v u : Int} (hw : 0 < wd) (h : cellB wd hi u v = true) (ha : x - far ≤ u) (hb : u ≤ x + far) (hc : y - far ≤ v) (hd : v ≤ y + far) (he : v = y - far ∨ v = y + far ∨ u = x - far ∨ u = x + far) : ringN wd x y far (idx wd hi v (u + 1)).toNat = ringN wd x y far (idx wd hi v u).toNat ++ [(u, v)] ∧ (ringN wd x y far (idx wd hi v u).toNat).length < (wd * hi).toNat := by
  obtain ⟨i1, i2, i3, i4⟩ := cell_in h
  obtain ⟨e1, e2, e3⟩ := ring_in (x := x) (y := y) (far := far) (hi := hi) hw i1 i2 i3 i4
  refine ⟨by rw [e1, ringN_yes (by unfold ringP; rw [e2, e3]; exact decide_eq_true (by omega)), e2, e3], ?_⟩
  have h1 := ringN_len wd x y far (idx wd hi v u).toNat
  have h2 : wd * (v + 1) ≤ wd * hi := Int.mul_le_mul_of_nonneg_left (by omega) (by omega)
  rw [Int.mul_add, Int.mul_one] at h2
  have h4 : 0 ≤ wd * v := Int.mul_nonneg (by omega) i3
  have h3 : idx wd hi v u = wd * v + u := by unfold idx; rw [if_neg (by omega), if_neg (by omega), if_neg (by omega), if_neg (by omega)]
  rw [h3] at h1 ⊢
  omega

/-! ### Lists of pairs that grow -/

def OutsP (w wr : World) (v : Value) (zs : List (Int × Int)) : Prop := wr.ownsRow w.heap.size 33 2 v zs.length (pvals zs) ∧ Below w.heap.size w wr

theorem outsP_nil {w wr : World} (h : Below w.heap.size w wr) : OutsP w wr (.slice none 0 0) [] := ⟨⟨rfl, .inl ⟨rfl, rfl⟩⟩, h⟩

theorem outsP_start {w wr : World} (h : Below w.heap.size w wr) : OutsP w (wr.alloc (.cells #[] 33)) (.slice (some ⟨wr.heap.size, 0, none⟩) 0 0) [] :=
  ⟨World.ownsRow_made wr #[] 0 h.size (by decide) rfl, h.alloc h.size _⟩

theorem outsP_next {w wr w1 : World} {v v' : Value} {zs : List (Int × Int)} {z : Int × Int} {ob : Obj} (h : OutsP w wr v zs) (ho : w1.ownsRow w.heap.size 33 2 v' (zs.length + 1) (pvals zs ++ [.int .i64 z.1, .int .i64 z.2])) (hg : (wr.alloc ob).grownBy w1 v.ownBlock) : OutsP w w1 v' (zs ++ [z]) := by
  refine ⟨?_, ?_⟩
  · have e : pvals (zs ++ [z]) = pvals zs ++ [.int .i64 z.1, .int .i64 z.2] := by unfold pvals; rw [List.flatMap_append]; rfl
    rw [e, List.length_append]; exact ho
  · have hz := h.2.size
    exact (h.2.alloc hz ob).grown hg (by simp; omega) (fun k hk => (h.1.lt k hk).1)

theorem outsP_later {w wr w1 : World} {v : Value} {zs : List (Int × Int)} (h : OutsP w wr v zs) (b : Below wr.heap.size wr w1) : OutsP w w1 v zs :=
  ⟨h.1.kept (grown_of_below b) (Classical.em _), h.2.trans (b.mono h.2.size)⟩

theorem outsP_end {w wr : World} {v : Value} {zs : List (Int × Int)} (h : OutsP w wr v zs) : ∃ a c, v = .slice a zs.length c ∧ OwnV wr w.heap.size a (pvals zs) ∧ Below w.heap.size w wr := by
  rcases h.1.2 with ⟨hv, h0⟩ | ⟨g, cap, cur, hv, _⟩
  · have : zs = [] := List.eq_nil_of_length_eq_zero h0
    subst this; subst hv
    exact ⟨none, 0, rfl, .inl ⟨rfl, rfl⟩, h.2⟩
  · subst hv
    exact ⟨_, cap, rfl, OwnV.of_owned2 h.1, h.2⟩

theorem oneP_news (wr : World) (x y : Int) : ∀ (j : Nat) (u : Value), [Value.int .i64 x, .int .i64 y][j]? = some u → (wr.alloc (.cells #[.int .i64 x, .int .i64 y] 33)).cell? ((⟨wr.heap.size, 0, none⟩ : Addr).add j) = some u := by
  intro j u hu
  have hb := (Blk.new wr #[.int .i64 x, .int .i64 y] 33).open.1
  match j with
  | 0 => simp at hu; subst hu; exact hb 0
  | 1 => simp at hu; subst hu; exact hb 1
  | j + 2 => simp at hu

theorem oneP_cells (x y : Int) : ∀ u ∈ [Value.int .i64 x, .int .i64 y], u.oneCell' = true := by
  intro u hu; simp at hu; rcases hu with rfl | rfl <;> rfl

structure GotProbes (B : Nat) (w w' : World) (m : List (Int × Int)) (a : Option Addr) (y : List (Int × Int)) : Prop where
  o : OwnV w' B a (pvals y)
  s : y = m ∧ y.length ≤ 256
  below : Below B w w'

theorem GotProbes.none {B : Nat} {w w' : World} (b : Below B w w') : GotProbes B w w' [] none [] := ⟨.inl ⟨rfl, rfl⟩, ⟨rfl, by decide⟩, b⟩

theorem fewP_max {y m : List (Int × Int)} (h : y = m ∧ y.length ≤ 256) : y.length ≤ maxLen := by
  have := h.2
  unfold maxLen; omega

def GavePr (w : World) (b : Bool) (z : List (Int × Int)) (r : Ending) (w' : World) : Prop :=
  ∃ (a : Option Addr) (c : Nat) (y : List (Int × Int)), r = .returned (.tuple #[.slice a y.length c, .bool b]) ∧ GotProbes w.heap.size w w' (if b then z else []) a y

theorem implApart (a b : Int) (w : World) (h1 : -1000 ≤ a) (h2 : a ≤ 1000) (h3 : -1000 ≤ b) (h4 : b ≤ 1000) : Calls Try.prog 16 #[.int .i64 a, .int .i64 b] w fun e w' => e = .returned (.int .i64 (max (a - b) (b - a))) ∧ Below w.heap.size w w' := by
  go_enter Try.func16, Try.ntmps16
  go_wp2
  · go_ret
    exact ⟨ret_i64 (by omega), Below.refl _ _⟩
  · go_ret
    exact ⟨ret_i64 (by omega), Below.refl _ _⟩

theorem implApartV (a b d : Int) (hd : max (a - b) (b - a) = d) (w : World) (h1 : -1000 ≤ a) (h2 : a ≤ 1000) (h3 : -1000 ≤ b) (h4 : b ≤ 1000) : Calls Try.prog 16 #[.int .i64 a, .int .i64 b] w fun e w' => e = .returned (.int .i64 d) ∧ Below w.heap.size w w' := by
  subst hd; exact implApart a b w h1 h2 h3 h4

def ringL (wd hi x y far : Int) : List (Int × Int) := ringN wd x y far (wd * hi).toNat
def ringB (wd hi : Int) (xs ys : List Nat) (x y far : Int) : Bool := validB wd hi xs ys && (cellB wd hi x y && (decide (1 ≤ far ∧ far ≤ 16) && decide ((ringL wd hi x y far).length ≤ 8)))

set_option maxHeartbeats 8000000 in
set_option maxRecDepth 100000 in
theorem implRingAroundL (wd hi : Int) (wb : Bool) (a b : Option Addr) (ca cb : Nat) (xs ys : List Nat) (x y far : Int) (w : World) (ha : RowV w a (fvals xs)) (hb : RowV w b (fvals ys)) (qa : ∀ z ∈ xs, z < 2 ^ 32) (qb : ∀ z ∈ ys, z < 2 ^ 32) (hx : xs.length ≤ maxLen) (hy : ys.length ≤ maxLen) (wx : (Lit.int .i64 x).wf = true) (wy : (Lit.int .i64 y).wf = true) (wf : (Lit.int .i64 far).wf = true) :
    Calls Try.prog 7 #[.agg #[.int .i64 wd, .int .i64 hi, .bool wb, .slice a xs.length ca, .slice b ys.length cb], .int .i64 x, .int .i64 y, .int .i64 far] w (GavePr w (ringB wd hi xs ys x y far) (ringL wd hi x y far)) := by
  rcases hv : validB wd hi xs ys with _ | _
  · skip
    have HR : Hid (ringB wd hi xs ys x y far = false) := Lib.hid (by unfold ringB; simp [hv])
    rw [HR.out]
    have H_v := Lib.hid hv; clear hv
    have X := Blk.new w #[.int .i64 wd, .int .i64 hi, .bool wb, .slice a xs.length ca, .slice b ys.length cb] 26
    have HB : Hid (Below w.heap.size w (w.alloc (.cells #[.int .i64 wd, .int .i64 hi, .bool wb, .slice a xs.length ca, .slice b ys.length cb] 26))) := Lib.hid ((Below.refl w.heap.size w).alloc (by simp <;> omega) _)
    go_enter Try.func7, Try.ntmps7
    go_wp2_with fail
    generalize (w.alloc (.cells #[.int .i64 wd, .int .i64 hi, .bool wb, .slice a xs.length ca, .slice b ys.length cb] 26)) = u1 at *
    refine (implShapeOf _ _ _ _ _ _ _ _ _ _).mono ?_
    rintro r u2 ⟨rfl, q⟩
    replace X := X.later q
    replace HB := Lib.hid (HB.out.trans (q.mono HB.out.size))
    clear q
    have Z := Blk.new u2 #[.int .i64 wd, .int .i64 hi, .bool wb] 40
    have q := below_new u2 (.cells #[.int .i64 wd, .int .i64 hi, .bool wb] 40)
    replace X := X.later q
    replace HB := Lib.hid (HB.out.trans (q.mono HB.out.size))
    clear q
    have C := Blk.new1 u2 (.cells #[.int .i64 wd, .int .i64 hi, .bool wb] 40) #[.int .i64 x, .int .i64 y] 43
    have q := below_new (u2.alloc (.cells #[.int .i64 wd, .int .i64 hi, .bool wb] 40)) (.cells #[.int .i64 x, .int .i64 y] 43)
    replace X := X.later q
    replace Z := Z.later q
    replace HB := Lib.hid (HB.out.trans (q.mono HB.out.size))
    clear q
    obtain ⟨Xc, Xf⟩ := X.open
    go_wp2_with fail
    generalize ((u2.alloc (.cells #[.int .i64 wd, .int .i64 hi, .bool wb] 40)).alloc (.cells #[.int .i64 x, .int .i64 y] 43)) = u3 at *
    refine (implValidSheet _ _ _ _ _ _ _ _ _ _ (ha.later HB.out) (hb.later HB.out) hx hy).mono ?_
    rintro r u4 ⟨rfl, q⟩
    clear Xc Xf
    replace X := X.later q
    replace Z := Z.later q
    replace C := C.later q
    replace HB := Lib.hid (HB.out.trans (q.mono HB.out.size))
    clear q
    rw [H_v.out]
    go_wp2
    go_ret2
    exact ⟨none, 0, [], rfl, GotProbes.none HB.out⟩
  obtain ⟨s1, s2, s3, s4, t1, t2⟩ := sides_mul (valid_sides hv)
  rcases hc : cellB wd hi x y with _ | _
  · skip
    have HR : Hid (ringB wd hi xs ys x y far = false) := Lib.hid (by unfold ringB; simp [hv, hc])
    rw [HR.out]
    have H_v := Lib.hid hv; have H_c := Lib.hid hc; clear hv hc
    have X := Blk.new w #[.int .i64 wd, .int .i64 hi, .bool wb, .slice a xs.length ca, .slice b ys.length cb] 26
    have HB : Hid (Below w.heap.size w (w.alloc (.cells #[.int .i64 wd, .int .i64 hi, .bool wb, .slice a xs.length ca, .slice b ys.length cb] 26))) := Lib.hid ((Below.refl w.heap.size w).alloc (by simp <;> omega) _)
    go_enter Try.func7, Try.ntmps7
    go_wp2_with fail
    generalize (w.alloc (.cells #[.int .i64 wd, .int .i64 hi, .bool wb, .slice a xs.length ca, .slice b ys.length cb] 26)) = u1 at *
    refine (implShapeOf _ _ _ _ _ _ _ _ _ _).mono ?_
    rintro r u2 ⟨rfl, q⟩
    replace X := X.later q
    replace HB := Lib.hid (HB.out.trans (q.mono HB.out.size))
    clear q
    have Z := Blk.new u2 #[.int .i64 wd, .int .i64 hi, .bool wb] 40
    have q := below_new u2 (.cells #[.int .i64 wd, .int .i64 hi, .bool wb] 40)
    replace X := X.later q
    replace HB := Lib.hid (HB.out.trans (q.mono HB.out.size))
    clear q
    have C := Blk.new1 u2 (.cells #[.int .i64 wd, .int .i64 hi, .bool wb] 40) #[.int .i64 x, .int .i64 y] 43
    have q := below_new (u2.alloc (.cells #[.int .i64 wd, .int .i64 hi, .bool wb] 40)) (.cells #[.int .i64 x, .int .i64 y] 43)
    replace X := X.later q
    replace Z := Z.later q
    replace HB := Lib.hid (HB.out.trans (q.mono HB.out.size))
    clear q
    obtain ⟨Xc, Xf⟩ := X.open
    go_wp2_with fail
    generalize ((u2.alloc (.cells #[.int .i64 wd, .int .i64 hi, .bool wb] 40)).alloc (.cells #[.int .i64 x, .int .i64 y] 43)) = u3 at *
    refine (implValidSheet _ _ _ _ _ _ _ _ _ _ (ha.later HB.out) (hb.later HB.out) hx hy).mono ?_
    rintro r u4 ⟨rfl, q⟩
    clear Xc Xf
    replace X := X.later q
    replace Z := Z.later q
    replace C := C.later q
    replace HB := Lib.hid (HB.out.trans (q.mono HB.out.size))
    clear q
    rw [H_v.out]
    obtain ⟨Zc, Zf⟩ := Z.open
    obtain ⟨Cc, Cf⟩ := C.open
    go_wp2_with fail
    refine (implHas _ _ _ _ _ _ s1 s2 s3 s4).mono ?_
    rintro r u5 ⟨rfl, q⟩
    clear Zc Zf
    clear Cc Cf
    replace X := X.later q
    replace Z := Z.later q
    replace C := C.later q
    replace HB := Lib.hid (HB.out.trans (q.mono HB.out.size))
    clear q
    rw [H_c.out]
    go_wp2
    go_ret2
    exact ⟨none, 0, [], rfl, GotProbes.none HB.out⟩
  obtain ⟨j1, j2, j3, j4⟩ := cell_in hc
  by_cases hf1 : 1 ≤ far
  rotate_left
  · skip
    have HR : Hid (ringB wd hi xs ys x y far = false) := Lib.hid (by unfold ringB; simp [hv, hc, show ¬ (1 ≤ far ∧ far ≤ 16) by omega])
    rw [HR.out]
    have H_v := Lib.hid hv; have H_c := Lib.hid hc; have hf9 : far < 1 := (by omega)
    clear hv hc
    have X := Blk.new w #[.int .i64 wd, .int .i64 hi, .bool wb, .slice a xs.length ca, .slice b ys.length cb] 26
    have HB : Hid (Below w.heap.size w (w.alloc (.cells #[.int .i64 wd, .int .i64 hi, .bool wb, .slice a xs.length ca, .slice b ys.length cb] 26))) := Lib.hid ((Below.refl w.heap.size w).alloc (by simp <;> omega) _)
    go_enter Try.func7, Try.ntmps7
    go_wp2_with fail
    generalize (w.alloc (.cells #[.int .i64 wd, .int .i64 hi, .bool wb, .slice a xs.length ca, .slice b ys.length cb] 26)) = u1 at *
    refine (implShapeOf _ _ _ _ _ _ _ _ _ _).mono ?_
    rintro r u2 ⟨rfl, q⟩
    replace X := X.later q
    replace HB := Lib.hid (HB.out.trans (q.mono HB.out.size))
    clear q
    have Z := Blk.new u2 #[.int .i64 wd, .int .i64 hi, .bool wb] 40
    have q := below_new u2 (.cells #[.int .i64 wd, .int .i64 hi, .bool wb] 40)
    replace X := X.later q
    replace HB := Lib.hid (HB.out.trans (q.mono HB.out.size))
    clear q
    have C := Blk.new1 u2 (.cells #[.int .i64 wd, .int .i64 hi, .bool wb] 40) #[.int .i64 x, .int .i64 y] 43
    have q := below_new (u2.alloc (.cells #[.int .i64 wd, .int .i64 hi, .bool wb] 40)) (.cells #[.int .i64 x, .int .i64 y] 43)
    replace X := X.later q
    replace Z := Z.later q
    replace HB := Lib.hid (HB.out.trans (q.mono HB.out.size))
    clear q
    obtain ⟨Xc, Xf⟩ := X.open
    go_wp2_with fail
    generalize ((u2.alloc (.cells #[.int .i64 wd, .int .i64 hi, .bool wb] 40)).alloc (.cells #[.int .i64 x, .int .i64 y] 43)) = u3 at *
    refine (implValidSheet _ _ _ _ _ _ _ _ _ _ (ha.later HB.out) (hb.later HB.out) hx hy).mono ?_
    rintro r u4 ⟨rfl, q⟩
    clear Xc Xf
    replace X := X.later q
    replace Z := Z.later q
    replace C := C.later q
    replace HB := Lib.hid (HB.out.trans (q.mono HB.out.size))
    clear q
    rw [H_v.out]
    obtain ⟨Zc, Zf⟩ := Z.open
    obtain ⟨Cc, Cf⟩ := C.open
    go_wp2_with fail
    refine (implHas _ _ _ _ _ _ s1 s2 s3 s4).mono ?_
    rintro r u5 ⟨rfl, q⟩
    clear Zc Zf
    clear Cc Cf
    replace X := X.later q
    replace Z := Z.later q
    replace C := C.later q
    replace HB := Lib.hid (HB.out.trans (q.mono HB.out.size))
    clear q
    rw [H_c.out]
    go_wp2
    go_ret2
    exact ⟨none, 0, [], rfl, GotProbes.none HB.out⟩
  by_cases hf2 : far ≤ 16
  rotate_left
  · skip
    have HR : Hid (ringB wd hi xs ys x y far = false) := Lib.hid (by unfold ringB; simp [hv, hc, show ¬ (1 ≤ far ∧ far ≤ 16) by omega])
    rw [HR.out]
    have H_v := Lib.hid hv; have H_c := Lib.hid hc; have hf8 : ¬ far < 1 := (by omega); have hf9 : (16 : Int) < far := (by omega)
    clear hv hc
    have X := Blk.new w #[.int .i64 wd, .int .i64 hi, .bool wb, .slice a xs.length ca, .slice b ys.length cb] 26
    have HB : Hid (Below w.heap.size w (w.alloc (.cells #[.int .i64 wd, .int .i64 hi, .bool wb, .slice a xs.length ca, .slice b ys.length cb] 26))) := Lib.hid ((Below.refl w.heap.size w).alloc (by simp <;> omega) _)
    go_enter Try.func7, Try.ntmps7
    go_wp2_with fail
    generalize (w.alloc (.cells #[.int .i64 wd, .int .i64 hi, .bool wb, .slice a xs.length ca, .slice b ys.length cb] 26)) = u1 at *
    refine (implShapeOf _ _ _ _ _ _ _ _ _ _).mono ?_
    rintro r u2 ⟨rfl, q⟩
    replace X := X.later q
    replace HB := Lib.hid (HB.out.trans (q.mono HB.out.size))
    clear q
    have Z := Blk.new u2 #[.int .i64 wd, .int .i64 hi, .bool wb] 40
    have q := below_new u2 (.cells #[.int .i64 wd, .int .i64 hi, .bool wb] 40)
    replace X := X.later q
    replace HB := Lib.hid (HB.out.trans (q.mono HB.out.size))
    clear q
    have C := Blk.new1 u2 (.cells #[.int .i64 wd, .int .i64 hi, .bool wb] 40) #[.int .i64 x, .int .i64 y] 43
    have q := below_new (u2.alloc (.cells #[.int .i64 wd, .int .i64 hi, .bool wb] 40)) (.cells #[.int .i64 x, .int .i64 y] 43)
    replace X := X.later q
    replace Z := Z.later q
    replace HB := Lib.hid (HB.out.trans (q.mono HB.out.size))
    clear q
    obtain ⟨Xc, Xf⟩ := X.open
    go_wp2_with fail
    generalize ((u2.alloc (.cells #[.int .i64 wd, .int .i64 hi, .bool wb] 40)).alloc (.cells #[.int .i64 x, .int .i64 y] 43)) = u3 at *
    refine (implValidSheet _ _ _ _ _ _ _ _ _ _ (ha.later HB.out) (hb.later HB.out) hx hy).mono ?_
    rintro r u4 ⟨rfl, q⟩
    clear Xc Xf
    replace X := X.later q
    replace Z := Z.later q
    replace C := C.later q
    replace HB := Lib.hid (HB.out.trans (q.mono HB.out.size))
    clear q
    rw [H_v.out]
    obtain ⟨Zc, Zf⟩ := Z.open
    obtain ⟨Cc, Cf⟩ := C.open
    go_wp2_with fail
    refine (implHas _ _ _ _ _ _ s1 s2 s3 s4).mono ?_
    rintro r u5 ⟨rfl, q⟩
    clear Zc Zf
    clear Cc Cf
    replace X := X.later q
    replace Z := Z.later q
    replace C := C.later q
    replace HB := Lib.hid (HB.out.trans (q.mono HB.out.size))
    clear q
    rw [H_c.out]
    go_wp2
    go_ret2
    exact ⟨none, 0, [], rfl, GotProbes.none HB.out⟩
  have hff : 1 ≤ far ∧ far ≤ 16 := ⟨hf1, hf2⟩
  have HRB : Hid (ringB wd hi xs ys x y far = decide ((ringL wd hi x y far).length ≤ 8)) := Lib.hid (by unfold ringB; simp [hv, hc, hff])
  rw [HRB.out]
  obtain ⟨f1, f2⟩ := hff
  have hN : 0 ≤ wd * hi := by omega
  have H_v := Lib.hid hv; have H_c := Lib.hid hc; clear hv hc
  have hf8 : ¬ far < 1 := by omega
  have hf9 : ¬ (16 : Int) < far := by omega
  have X := Blk.new w #[.int .i64 wd, .int .i64 hi, .bool wb, .slice a xs.length ca, .slice b ys.length cb] 26
  have HB : Hid (Below w.heap.size w (w.alloc (.cells #[.int .i64 wd, .int .i64 hi, .bool wb, .slice a xs.length ca, .slice b ys.length cb] 26))) := Lib.hid ((Below.refl w.heap.size w).alloc (by simp <;> omega) _)
  go_enter Try.func7, Try.ntmps7
  go_wp2_with fail
  generalize (w.alloc (.cells #[.int .i64 wd, .int .i64 hi, .bool wb, .slice a xs.length ca, .slice b ys.length cb] 26)) = u1 at *
  refine (implShapeOf _ _ _ _ _ _ _ _ _ _).mono ?_
  rintro r u2 ⟨rfl, q⟩
  replace X := X.later q
  replace HB := Lib.hid (HB.out.trans (q.mono HB.out.size))
  clear q
  have Z := Blk.new u2 #[.int .i64 wd, .int .i64 hi, .bool wb] 40
  have q := below_new u2 (.cells #[.int .i64 wd, .int .i64 hi, .bool wb] 40)
  replace X := X.later q
  replace HB := Lib.hid (HB.out.trans (q.mono HB.out.size))
  clear q
  have C := Blk.new1 u2 (.cells #[.int .i64 wd, .int .i64 hi, .bool wb] 40) #[.int .i64 x, .int .i64 y] 43
  have q := below_new (u2.alloc (.cells #[.int .i64 wd, .int .i64 hi, .bool wb] 40)) (.cells #[.int .i64 x, .int .i64 y] 43)
  replace X := X.later q
  replace Z := Z.later q
  replace HB := Lib.hid (HB.out.trans (q.mono HB.out.size))
  clear q
  obtain ⟨Xc, Xf⟩ := X.open
  go_wp2_with fail
  generalize ((u2.alloc (.cells #[.int .i64 wd, .int .i64 hi, .bool wb] 40)).alloc (.cells #[.int .i64 x, .int .i64 y] 43)) = u3 at *
  refine (implValidSheet _ _ _ _ _ _ _ _ _ _ (ha.later HB.out) (hb.later HB.out) hx hy).mono ?_
  rintro r u4 ⟨rfl, q⟩
  clear Xc Xf
  replace X := X.later q
  replace Z := Z.later q
  replace C := C.later q
  replace HB := Lib.hid (HB.out.trans (q.mono HB.out.size))
  clear q
  rw [H_v.out]
  obtain ⟨Zc, Zf⟩ := Z.open
  obtain ⟨Cc, Cf⟩ := C.open
  go_wp2_with fail
  refine (implHas _ _ _ _ _ _ s1 s2 s3 s4).mono ?_
  rintro r u5 ⟨rfl, q⟩
  clear Zc Zf
  clear Cc Cf
  replace X := X.later q
  replace Z := Z.later q
  replace C := C.later q
  replace HB := Lib.hid (HB.out.trans (q.mono HB.out.size))
  clear q
  rw [H_c.out]
  obtain ⟨Zc, Zf⟩ := Z.open
  go_wp2_with fail
  refine (implCount _ _ _ _ hN t2).mono ?_
  rintro r u6 ⟨rfl, q⟩
  clear Zc Zf
  replace X := X.later q
  replace Z := Z.later q
  replace C := C.later q
  replace HB := Lib.hid (HB.out.trans (q.mono HB.out.size))
  clear q
  obtain ⟨Zc, Zf⟩ := Z.open
  obtain ⟨ti, hi0, hz0, hz1, hz2⟩ := info_parts Try.infoProbe
  have HI := Lib.hid hi0; have HZ0 := Lib.hid hz0; have HZ1 := Lib.hid hz1; have HZ2 := Lib.hid hz2; clear hi0 hz0 hz1 hz2
  have OS := Lib.hid (outsP_nil (Below.refl u6.heap.size u6))
  obtain ⟨N, hNN⟩ := Int.eq_ofNat_of_zero_le hN
  have HRL : Hid (ringL wd hi x y far = ringN wd x y far N) := Lib.hid (by unfold ringL; rw [hNN]; try rfl)
  have HNN := Lib.hid hNN
  have hN256 : N ≤ 256 := by omega
  rw [hNN]
  clear hNN
  go_wp2
  go_loopw [12, 13, 14, 39] (fun rv _ _ iv wr => ∃ k : Nat, k ≤ N ∧ iv = .int .i64 k ∧ OutsP u6 wr rv (ringN wd x y far k)) (fun _ _ _ iv _ => N - (intOf iv).toNat)
  case atStart => exact ⟨0, Nat.zero_le _, rfl, OS.out⟩
  case round =>
    obtain ⟨k, hk, rfl, hout⟩ := hrel
    have HO := Lib.hid hout; clear hout OS
    clear Zc Zf
    have Z1 := Z.later HO.out.2
    obtain ⟨zc, zf⟩ := Z1.open
    by_cases hlt : k < N
    · skip
      have hkn : (k : Int) < (N : Int) := by omega
      have HB1 := Lib.hid (HB.out.trans (HO.out.2.mono HB.out.size))
      go_wp2_with fail
      refine (implCellAt _ _ _ _ _ s1 s2 (by omega) (by omega)).mono ?_
      rintro r w1 ⟨rfl, q⟩
      have hcx0 := Int.emod_nonneg (k : Int) (show wd ≠ 0 by omega)
      have hcx1 := Int.emod_lt_of_pos (k : Int) (show 0 < wd by omega)
      have hcy0 : 0 ≤ (k : Int) / wd := Int.ediv_nonneg (by omega) (by omega)
      have hcy1 : (k : Int) / wd ≤ 256 := by
        have := Int.ediv_le_self wd (show 0 ≤ (k : Int) by omega)
        omega
      have hPy : ringP wd x y far k = decide (max (max ((k : Int) % wd - x) (x - (k : Int) % wd)) (max ((k : Int) / wd - y) (y - (k : Int) / wd)) = far) := rfl
      have HYES := Lib.hid (fun h => ringN_yes (wd := wd) (x := x) (y := y) (far := far) (j := k) h)
      have HNO := Lib.hid (fun h => ringN_no (wd := wd) (x := x) (y := y) (far := far) (j := k) h)
      have hlen := ringN_len wd x y far k
      have HPY := Lib.hid hPy; clear hPy
      generalize (k : Int) % wd = cx at *
      generalize (k : Int) / wd = cy at *
      have HO1 := Lib.hid (outsP_later HO.out q)
      replace HB1 := Lib.hid (HB1.out.trans (q.mono HB1.out.size))
      clear zc zf q
      have D := Blk.new w1 #[.int .i64 cx, .int .i64 cy] 43
      have q := below_new w1 (.cells #[.int .i64 cx, .int .i64 cy] 43)
      replace HO1 := Lib.hid (outsP_later HO1.out q)
      replace HB1 := Lib.hid (HB1.out.trans (q.mono HB1.out.size))
      clear q
      go_upto_region 9 with (fail)
      generalize w1.alloc (.cells #[.int .i64 cx, .int .i64 cy] 43) = w2 at *
      generalize hd1 : max (cx - x) (x - cx) = d1 at *
      generalize hd2 : max (cy - y) (y - cy) = d2 at *
      have HD1 := Lib.hid hd1; have HD2 := Lib.hid hd2; clear hd1 hd2
      generalize ringP wd x y far k = pp at *
      generalize hzs : ringN wd x y far k = zs at *
      clear hzs
      by_cases hdd : d1 < d2
      · skip
        rcases hfe : (d2 == far) with _ | _
        · skip
          have hfp : d2 ≠ far := by simpa using hfe
          have HFP := Lib.hid hfp; clear hfp
          have tk0 : True := trivial; have tk1 : True := trivial
          obtain rfl : pp = false := by have := HFP.out; rw [HPY.out, decide_eq_false_iff_not]; omega
          have HS := Lib.hid (HNO.out rfl)
          go_region_held3 (fun w' => (∀ i, w'.cell? ⟨w1.heap.size, i, none⟩ = (#[.int .i64 cx, .int .i64 cy] : Array Value)[i]?) ∧ Below w2.heap.size w2 w') (first | with_reducible exact keep1_start D | with_reducible exact keep1_later D (by assumption) (by first | assumption | exact Below.refl _ _))
            (first | (go_at_call 16; have _t := tk0; clear _t tk0; (with_reducible refine (implApartV cx x d1 HD1.out _ (by omega) (by omega) (by omega) (by omega)).mono ?_); rintro r w3 ⟨rfl, qa0⟩) | (go_at_call 16; have _t := tk1; clear _t tk1; (with_reducible refine (implApartV cy y d2 HD2.out _ (by omega) (by omega) (by omega) (by omega)).mono ?_); rintro r w4 ⟨rfl, qa1⟩))
          have q := below_next (below_next (below_drew w2) qa0) qa1
          clear qa0 qa1
          replace HO1 := Lib.hid (outsP_later HO1.out q)
          replace D := D.later q
          clear q
          have HN0 := HO1.out
          rw [← HS.out] at HN0
          have HN := Lib.hid HN0; clear HN0
          go_wp2
          go_roundw
          case rel => exact ⟨k + 1, by omega, by go_num, HN.out⟩
          case measure => simp [intOf]; omega
        · skip
          have hfp : d2 = far := by simpa using hfe
          have HFP := Lib.hid hfp; clear hfp
          have tk0 : True := trivial; have tk1 : True := trivial
          obtain rfl : pp = true := by have := HFP.out; rw [HPY.out, decide_eq_true_eq]; omega
          have HS := Lib.hid (HYES.out rfl)
          go_region_held3 (fun w' => (∀ i, w'.cell? ⟨w1.heap.size, i, none⟩ = (#[.int .i64 cx, .int .i64 cy] : Array Value)[i]?) ∧ Below w2.heap.size w2 w') (first | with_reducible exact keep1_start D | with_reducible exact keep1_later D (by assumption) (by first | assumption | exact Below.refl _ _))
            (first | (go_at_call 16; have _t := tk0; clear _t tk0; (with_reducible refine (implApartV cx x d1 HD1.out _ (by omega) (by omega) (by omega) (by omega)).mono ?_); rintro r w3 ⟨rfl, qa0⟩) | (go_at_call 16; have _t := tk1; clear _t tk1; (with_reducible refine (implApartV cy y d2 HD2.out _ (by omega) (by omega) (by omega) (by omega)).mono ?_); rintro r w4 ⟨rfl, qa1⟩))
          have q := below_next (below_next (below_drew w2) qa0) qa1
          clear qa0 qa1
          replace HO1 := Lib.hid (outsP_later HO1.out q)
          replace D := D.later q
          clear q
          obtain ⟨dc, df⟩ := D.open
          have hown := HO1.out.1
          have hlz : zs.length ≤ 256 := by omega
          go_wp2_with (at_builtin; refine wpList_append_own _ rfl _ _ 29 rfl u6.heap.size 33 ti (.agg #[.int .i64 0, .int .i64 0]) 2 16 Try.underlying29 HI.out HZ0.out HZ1.out HZ2.out rfl (by decide) _ _ _ rfl (hown.alloc _) ⟨w4.heap.size, 0, none⟩ 1 1 [.int .i64 cx, .int .i64 cy] rfl rfl (oneP_news _ _ _) (oneP_cells _ _) (by unfold maxLen; omega) (by omega) (by have := HO1.out.2.size; simp; omega) ?_; intro v' w9 hown' hgrow _)
          have HN0 := outsP_next (z := (cx, cy)) HO1.out hown' hgrow
          rw [← HS.out] at HN0
          have HN := Lib.hid HN0; clear HN0
          clear hown hown' hgrow
          go_wp2
          go_roundw
          case rel => exact ⟨k + 1, by omega, by go_num, HN.out⟩
          case measure => simp [intOf]; omega
      · skip
        have hdd2 : d2 ≤ d1 := by omega
        rcases hfe : (d1 == far) with _ | _
        · skip
          have hfp : d1 ≠ far := by simpa using hfe
          have HFP := Lib.hid hfp; clear hfp
          have tk0 : True := trivial; have tk1 : True := trivial
          obtain rfl : pp = false := by have := HFP.out; rw [HPY.out, decide_eq_false_iff_not]; omega
          have HS := Lib.hid (HNO.out rfl)
          go_region_held3 (fun w' => (∀ i, w'.cell? ⟨w1.heap.size, i, none⟩ = (#[.int .i64 cx, .int .i64 cy] : Array Value)[i]?) ∧ Below w2.heap.size w2 w') (first | with_reducible exact keep1_start D | with_reducible exact keep1_later D (by assumption) (by first | assumption | exact Below.refl _ _))
            (first | (go_at_call 16; have _t := tk0; clear _t tk0; (with_reducible refine (implApartV cx x d1 HD1.out _ (by omega) (by omega) (by omega) (by omega)).mono ?_); rintro r w3 ⟨rfl, qa0⟩) | (go_at_call 16; have _t := tk1; clear _t tk1; (with_reducible refine (implApartV cy y d2 HD2.out _ (by omega) (by omega) (by omega) (by omega)).mono ?_); rintro r w4 ⟨rfl, qa1⟩))
          have q := below_next (below_next (below_drew w2) qa0) qa1
          clear qa0 qa1
          replace HO1 := Lib.hid (outsP_later HO1.out q)
          replace D := D.later q
          clear q
          have HN0 := HO1.out
          rw [← HS.out] at HN0
          have HN := Lib.hid HN0; clear HN0
          go_wp2
          go_roundw
          case rel => exact ⟨k + 1, by omega, by go_num, HN.out⟩
          case measure => simp [intOf]; omega
        · skip
          have hfp : d1 = far := by simpa using hfe
          have HFP := Lib.hid hfp; clear hfp
          have tk0 : True := trivial; have tk1 : True := trivial
          obtain rfl : pp = true := by have := HFP.out; rw [HPY.out, decide_eq_true_eq]; omega
          have HS := Lib.hid (HYES.out rfl)
          go_region_held3 (fun w' => (∀ i, w'.cell? ⟨w1.heap.size, i, none⟩ = (#[.int .i64 cx, .int .i64 cy] : Array Value)[i]?) ∧ Below w2.heap.size w2 w') (first | with_reducible exact keep1_start D | with_reducible exact keep1_later D (by assumption) (by first | assumption | exact Below.refl _ _))
            (first | (go_at_call 16; have _t := tk0; clear _t tk0; (with_reducible refine (implApartV cx x d1 HD1.out _ (by omega) (by omega) (by omega) (by omega)).mono ?_); rintro r w3 ⟨rfl, qa0⟩) | (go_at_call 16; have _t := tk1; clear _t tk1; (with_reducible refine (implApartV cy y d2 HD2.out _ (by omega) (by omega) (by omega) (by omega)).mono ?_); rintro r w4 ⟨rfl, qa1⟩))
          have q := below_next (below_next (below_drew w2) qa0) qa1
          clear qa0 qa1
          replace HO1 := Lib.hid (outsP_later HO1.out q)
          replace D := D.later q
          clear q
          obtain ⟨dc, df⟩ := D.open
          have hown := HO1.out.1
          have hlz : zs.length ≤ 256 := by omega
          go_wp2_with (at_builtin; refine wpList_append_own _ rfl _ _ 29 rfl u6.heap.size 33 ti (.agg #[.int .i64 0, .int .i64 0]) 2 16 Try.underlying29 HI.out HZ0.out HZ1.out HZ2.out rfl (by decide) _ _ _ rfl (hown.alloc _) ⟨w4.heap.size, 0, none⟩ 1 1 [.int .i64 cx, .int .i64 cy] rfl rfl (oneP_news _ _ _) (oneP_cells _ _) (by unfold maxLen; omega) (by omega) (by have := HO1.out.2.size; simp; omega) ?_; intro v' w9 hown' hgrow _)
          have HN0 := outsP_next (z := (cx, cy)) HO1.out hown' hgrow
          rw [← HS.out] at HN0
          have HN := Lib.hid HN0; clear HN0
          clear hown hown' hgrow
          go_wp2
          go_roundw
          case rel => exact ⟨k + 1, by omega, by go_num, HN.out⟩
          case measure => simp [intOf]; omega
    · skip
      obtain rfl : k = N := by omega
      have HO1 := HO.out; rw [← HRL.out] at HO1; replace HO := Lib.hid HO1; clear HO1
      have hLL : (ringL wd hi x y far).length ≤ (wd * hi).toNat := ringN_len _ _ _ _ _
      obtain ⟨a9, c9, rfl, hown9, hb9⟩ := outsP_end HO.out
      have HBW := Lib.hid (HB.out.trans (HO.out.2.mono HB.out.size))
      have HS0 := HB.out.size
      generalize hLg : ringL wd hi x y far = L at *
      clear hLg
      by_cases h8 : L.length ≤ 8
      · skip
        have h8i : ¬ (8 : Int) < (L.length : Int) := by omega
        rw [decide_eq_true h8]
        go_wp2
        go_ret2
        first | exact ⟨a9, c9, L, rfl, hown9.lower HS0, ⟨rfl, by omega⟩, HBW.out⟩ | (rw [decide_eq_true h8]; exact ⟨a9, c9, L, rfl, hown9.lower HS0, ⟨rfl, by omega⟩, HBW.out⟩)
      · skip
        have h8i : (8 : Int) < (L.length : Int) := by omega
        rw [decide_eq_false h8]
        go_wp2
        go_ret2
        first | exact ⟨none, 0, [], rfl, GotProbes.none HBW.out⟩ | (rw [decide_eq_false h8]; exact ⟨none, 0, [], rfl, GotProbes.none HBW.out⟩)

end Go.Proofs.Ytagjlfnlbfgfaaa
