/- Several texts in one: facts on floats, lists, memory and the functions that the theorems beside this text use. Conditions: none beyond those of each theorem. -/
import Derived.Test.YtedfbaeajofmnaaBu18
import Derived.Test.YtedfbaeajofmnaaBu11
import Derived.Test.YtedfbaeajofmnaaBu5
import Derived.Test.YtedfbaeajofmnaaCallV
import Derived.Test.YtedfbaeajofmnaaBu14

set_option linter.unusedVariables false

section

namespace Go.Proofs.Ytedfbaeajofmnaa
open Go Ieee Go.RowKit
set_option linter.unusedVariables false

/-- the cells beside a cell, around the edges -/
def dnI (m k i : Nat) : Nat := i % m + m * ((i / m + 1) % k)
def rtI (m i : Nat) : Nat := (i % m + 1) % m + m * (i / m)
def upI (m k i : Nat) : Nat := i % m + m * ((i / m + (k - 1)) % k)
def lfI (m i : Nat) : Nat := (i % m + (m - 1)) % m + m * (i / m)

abbrev half32 : Option Nat := canon .f32 1056964608
abbrev one32 : Option Nat := canon .f32 1065353216

def halfX (wb : Bool) (m k : Nat) (E X : Nat → Option Nat) (i : Nat) : Option Nat :=
  if belowB wb (k : Int) ((i / m : Nat) : Int) then X i else fop .sub .f32 (X i) (fop .mul .f32 half32 (fop .sub .f32 (E (dnI m k i)) (E i)))
def halfY (wb : Bool) (m k : Nat) (E Y : Nat → Option Nat) (i : Nat) : Option Nat :=
  if besideB wb (m : Int) ((i % m : Nat) : Int) then Y i else fop .add .f32 (Y i) (fop .mul .f32 half32 (fop .sub .f32 (E (rtI m i)) (E i)))
/-- X and Y are those behind the half step -/
def restE (wb : Bool) (m k : Nat) (S L E X Y : Nat → Option Nat) (i : Nat) : Option Nat :=
  if bordB wb (m : Int) (k : Int) ((i % m : Nat) : Int) ((i / m : Nat) : Int) then E i
  else fop .add .f32 (fop .mul .f32 (E i) (fop .sub .f32 one32 (L i))) (fop .mul .f32 (S i) (fop .sub .f32 (fop .sub .f32 (Y i) (Y (lfI m i))) (fop .sub .f32 (X i) (X (upI m k i)))))

/-- these bits are those numbers, as far as n -/
def Ag (n : Nat) (F : Nat → Nat) (C : Nat → Option Nat) : Prop := ∀ q, q < n → canon .f32 (F q) = C q ∧ F q < 2 ^ 32

def mix (j : Nat) (A B : Nat → Option Nat) (q : Nat) : Option Nat := if q < j then A q else B q

theorem mix_here (j : Nat) (A B : Nat → Option Nat) : mix j A B j = B j := if_neg (Nat.lt_irrefl j)

theorem ag_zero {n : Nat} {F : Nat → Nat} {A B : Nat → Option Nat} (h : Ag n F B) : Ag n F (mix 0 A B) := fun q hq => by
  unfold mix; rw [if_neg (Nat.not_lt_zero q)]; exact h q hq

theorem ag_all {n : Nat} {F : Nat → Nat} {A B : Nat → Option Nat} (h : Ag n F (mix n A B)) : Ag n F A := fun q hq => by
  have := h q hq
  unfold mix at this; rwa [if_pos hq] at this

theorem ag_put {n j v : Nat} {F : Nat → Nat} {A B : Nat → Option Nat} (h : Ag n F (mix j A B)) (hc : canon .f32 v = A j) (hv : v < 2 ^ 32) : Ag n (up1 F j v) (mix (j + 1) A B) := fun q hq => by
  unfold up1 mix
  by_cases e : q = j
  · subst e; rw [if_pos rfl, if_pos (Nat.lt_succ_self q)]; exact ⟨hc, hv⟩
  · rw [if_neg e]
    have := h q hq
    unfold mix at this
    by_cases l : q < j
    · rw [if_pos l] at this; rw [if_pos (by omega)]; exact this
    · rw [if_neg l] at this; rw [if_neg (by omega)]; exact this

theorem ag_same {n j : Nat} {F : Nat → Nat} {A B : Nat → Option Nat} (h : Ag n F (mix j A B)) (he : A j = B j) : Ag n F (mix (j + 1) A B) := fun q hq => by
  have := h q hq
  unfold mix at this ⊢
  by_cases l : q < j
  · rw [if_pos l] at this; rw [if_pos (by omega)]; exact this
  · rw [if_neg l] at this
    by_cases e : q = j
    · subst e; rw [if_pos (Nat.lt_succ_self q), he]; exact this
    · rw [if_neg (by omega)]; exact this

theorem ag_here {n j : Nat} {F : Nat → Nat} {A B : Nat → Option Nat} (h : Ag n F (mix j A B)) (hj : j < n) : canon .f32 (F j) = B j ∧ F j < 2 ^ 32 := by
  have := h j hj
  rwa [mix_here] at this

theorem at_lt {m k i : Nat} (h : i < m * k) (hm : 0 < m) : i % m < m ∧ i / m < k ∧ i % m + m * (i / m) = i :=
  ⟨Nat.mod_lt _ hm, (Nat.div_lt_iff_lt_mul hm).2 (by rw [Nat.mul_comm]; exact h), Nat.mod_add_div i m⟩

theorem place_lt {m k x y : Nat} (hx : x < m) (hy : y < k) : x + m * y < m * k := by
  have h : m * (y + 1) ≤ m * k := Nat.mul_le_mul_left m hy
  rw [Nat.mul_succ] at h
  omega

theorem dn_lt {m k i : Nat} (hm : 0 < m) (hk : 0 < k) : dnI m k i < m * k := place_lt (Nat.mod_lt _ hm) (Nat.mod_lt _ hk)
theorem up_lt {m k i : Nat} (hm : 0 < m) (hk : 0 < k) : upI m k i < m * k := place_lt (Nat.mod_lt _ hm) (Nat.mod_lt _ hk)
theorem rt_lt {m k i : Nat} (hm : 0 < m) (h : i < m * k) : rtI m i < m * k := place_lt (Nat.mod_lt _ hm) (at_lt h hm).2.1
theorem lf_lt {m k i : Nat} (hm : 0 < m) (h : i < m * k) : lfI m i < m * k := place_lt (Nat.mod_lt _ hm) (at_lt h hm).2.1

/-- a number of a cell in a block of arrays -/
theorem gr_cell {w : World} {g o m k i : Nat} {cs : Array Value} {t : TypeId} {F : Nat → Nat} (G : Blk w g cs t) (h : GR cs o m k F) (hi : i < m * k) (hm : 0 < m) : w.cell? ⟨g, o + (16 * (i / m) + i % m), none⟩ = some (.float .f32 (F i)) := by
  obtain ⟨h1, h2, h3⟩ := at_lt hi hm
  rw [G.open.1, h _ _ h1 h2, h3]

theorem gr_place {w : World} {g o m k x y : Nat} {cs : Array Value} {t : TypeId} {F : Nat → Nat} (G : Blk w g cs t) (h : GR cs o m k F) (hx : x < m) (hy : y < k) : w.cell? ⟨g, o + (16 * y + x), none⟩ = some (.float .f32 (F (x + m * y))) := by
  rw [G.open.1, h _ _ hx hy]

theorem gr_put {cs : Array Value} {o m k i v : Nat} {F : Nat → Nat} (h : GR cs o m k F) (ha : AF 768 cs) (hm : m ≤ 16) (hk : k ≤ 16) (ho : o ≤ 512) (h0 : 0 < m) (hi : i < m * k) : GR (cs.setIfInBounds (o + (16 * (i / m) + i % m)) (.float .f32 v)) o m k (up1 F i v) := by
  obtain ⟨h1, h2, h3⟩ := at_lt hi h0
  have := gr_set h ha hm (by omega) h1 h2 v
  rwa [h3] at this

/-- one number of X, or of Y, or of E is another one -/
theorem gf_putX {cs : Array Value} {m k i v : Nat} {E X Y : Nat → Nat} (h : GF cs m k E X Y) (hm : m ≤ 16) (hk : k ≤ 16) (h0 : 0 < m) (hi : i < m * k) : GF (cs.setIfInBounds (256 + (16 * (i / m) + i % m)) (.float .f32 v)) m k E (up1 X i v) Y := by
  obtain ⟨h1, h2, h3, h4⟩ := h
  obtain ⟨c1, c2, c3⟩ := at_lt hi h0
  exact ⟨af_set h1 _ _, gr_other h2 _ hm (by omega), gr_put h3 h1 hm hk (by omega) h0 hi, gr_other h4 _ hm (by omega)⟩
theorem gf_putY {cs : Array Value} {m k i v : Nat} {E X Y : Nat → Nat} (h : GF cs m k E X Y) (hm : m ≤ 16) (hk : k ≤ 16) (h0 : 0 < m) (hi : i < m * k) : GF (cs.setIfInBounds (512 + (16 * (i / m) + i % m)) (.float .f32 v)) m k E X (up1 Y i v) := by
  obtain ⟨h1, h2, h3, h4⟩ := h
  obtain ⟨c1, c2, c3⟩ := at_lt hi h0
  exact ⟨af_set h1 _ _, gr_other h2 _ hm (by omega), gr_other h3 _ hm (by omega), gr_put h4 h1 hm hk (by omega) h0 hi⟩
theorem gf_putE {cs : Array Value} {m k i v : Nat} {E X Y : Nat → Nat} (h : GF cs m k E X Y) (hm : m ≤ 16) (hk : k ≤ 16) (h0 : 0 < m) (hi : i < m * k) : GF (cs.setIfInBounds (0 + (16 * (i / m) + i % m)) (.float .f32 v)) m k (up1 E i v) X Y := by
  obtain ⟨h1, h2, h3, h4⟩ := h
  obtain ⟨c1, c2, c3⟩ := at_lt hi h0
  exact ⟨af_set h1 _ _, gr_put h2 h1 hm hk (by omega) h0 hi, gr_other h3 _ hm (by omega), gr_other h4 _ hm (by omega)⟩

end Go.Proofs.Ytedfbaeajofmnaa

end

section

namespace Go.Proofs.Ytedfbaeajofmnaa
open Go Ieee Go.RowKit
set_option linter.unusedVariables false
set_option linter.unusedSimpArgs false

def OutsT (t : TypeId) (w wr : World) (v : Value) (zs : List (Int × Int)) : Prop := wr.ownsRow w.heap.size t 2 v zs.length (pvals zs) ∧ Below w.heap.size w wr

theorem outsT_nil {t : TypeId} {w wr : World} (h : Below w.heap.size w wr) : OutsT t w wr (.slice none 0 0) [] := ⟨⟨rfl, .inl ⟨rfl, rfl⟩⟩, h⟩

theorem outsT_start {t : TypeId} {w wr : World} (h : Below w.heap.size w wr) : OutsT t w (wr.alloc (.cells #[] t)) (.slice (some ⟨wr.heap.size, 0, none⟩) 0 0) [] :=
  ⟨World.ownsRow_made wr #[] 0 h.size (by decide) rfl, h.alloc h.size _⟩

theorem outsT_next {t : TypeId} {w wr w1 : World} {v v' : Value} {zs : List (Int × Int)} {z : Int × Int} {ob : Obj} (h : OutsT t w wr v zs) (ho : w1.ownsRow w.heap.size t 2 v' (zs.length + 1) (pvals zs ++ [.int .i64 z.1, .int .i64 z.2])) (hg : (wr.alloc ob).grownBy w1 v.ownBlock) : OutsT t w w1 v' (zs ++ [z]) := by
  refine ⟨?_, ?_⟩
  · have e : pvals (zs ++ [z]) = pvals zs ++ [.int .i64 z.1, .int .i64 z.2] := by unfold pvals; rw [List.flatMap_append]; rfl
    rw [e, List.length_append]; exact ho
  · have hz := h.2.size
    exact (h.2.alloc hz ob).grown hg (by simp; omega) (fun k hk => (h.1.lt k hk).1)

theorem outsT_later {t : TypeId} {w wr w1 : World} {v : Value} {zs : List (Int × Int)} (h : OutsT t w wr v zs) (b : Below wr.heap.size wr w1) : OutsT t w w1 v zs :=
  ⟨h.1.kept (grown_of_below b) (Classical.em _), h.2.trans (b.mono h.2.size)⟩

theorem outsT_end {t : TypeId} {w wr : World} {v : Value} {zs : List (Int × Int)} (h : OutsT t w wr v zs) : ∃ a c, v = .slice a zs.length c ∧ OwnV wr w.heap.size a (pvals zs) ∧ Below w.heap.size w wr := by
  rcases h.1.2 with ⟨hv, h0⟩ | ⟨g, cap, cur, hv, _⟩
  · have : zs = [] := List.eq_nil_of_length_eq_zero h0
    subst this; subst hv
    exact ⟨none, 0, rfl, .inl ⟨rfl, rfl⟩, h.2⟩
  · subst hv
    exact ⟨_, cap, rfl, OwnV.of_owned2 h.1, h.2⟩

theorem oneT_news (t : TypeId) (wr : World) (x y : Int) : ∀ (j : Nat) (u : Value), [Value.int .i64 x, .int .i64 y][j]? = some u → (wr.alloc (.cells #[.int .i64 x, .int .i64 y] t)).cell? ((⟨wr.heap.size, 0, none⟩ : Addr).add j) = some u := by
  intro j u hu
  have hb := (Blk.new wr #[.int .i64 x, .int .i64 y] t).open.1
  match j with
  | 0 => simp at hu; subst hu; exact hb 0
  | 1 => simp at hu; subst hu; exact hb 1
  | j + 2 => simp at hu

theorem oneT_cells (x y : Int) : ∀ u ∈ [Value.int .i64 x, .int .i64 y], u.oneCell' = true := by
  intro u hu; simp at hu; rcases hu with rfl | rfl <;> rfl

structure GotPairs (B : Nat) (w w' : World) (m : List (Int × Int)) (a : Option Addr) (y : List (Int × Int)) : Prop where
  o : OwnV w' B a (pvals y)
  s : y = m ∧ y.length ≤ 256
  below : Below B w w'

theorem GotPairs.none {B : Nat} {w w' : World} (b : Below B w w') : GotPairs B w w' [] none [] := ⟨.inl ⟨rfl, rfl⟩, ⟨rfl, by decide⟩, b⟩

theorem fewT_max {y m : List (Int × Int)} (h : y = m ∧ y.length ≤ 256) : y.length ≤ maxLen := by
  have := h.2
  unfold maxLen; omega

def GaveT2 (w : World) (b : Bool) (z : List (Int × Int)) (r : Ending) (w' : World) : Prop :=
  ∃ (a : Option Addr) (c : Nat) (y : List (Int × Int)), r = .returned (.tuple #[.slice a y.length c, .bool b]) ∧ GotPairs w.heap.size w w' (if b then z else []) a y

theorem madeCells_two (z : Value) (n : Nat) : madeCells #[z, z] n = (List.replicate n z).toArray := by
  apply Array.ext
  · simp [madeCells]
  · intro i h1 h2
    have hm : i % 2 = 0 ∨ i % 2 = 1 := by omega
    simp only [madeCells, Array.getElem_map, Array.getElem_range, List.getElem_toArray, List.getElem_replicate]
    rcases hm with h | h <;> simp [h]

theorem pvals_zeros (n : Nat) : pvals (List.replicate n (0, 0)) = List.replicate (n * 2) (Value.int .i64 0) := by
  induction n with
  | zero => rfl
  | succ n ih =>
    rw [List.replicate_succ, show (n + 1) * 2 = n * 2 + 1 + 1 by omega, List.replicate_succ, List.replicate_succ, ← ih]; rfl

theorem pvals_set {ps : List (Int × Int)} {k : Nat} {a b : Int} (h : k < ps.length) : ((pvals ps).set (k * 2) (.int .i64 a)).set (k * 2 + 1) (.int .i64 b) = pvals (ps.set k (a, b)) := by
  induction ps generalizing k with
  | nil => simp at h
  | cons p ps ih =>
    cases k with
    | zero => rfl
    | succ k =>
      have h' : k < ps.length := by simpa using h
      show ((Value.int .i64 p.1 :: .int .i64 p.2 :: pvals ps).set ((k + 1) * 2) _).set ((k + 1) * 2 + 1) _ = Value.int .i64 p.1 :: .int .i64 p.2 :: pvals (ps.set k (a, b))
      rw [show (k + 1) * 2 = k * 2 + 1 + 1 by omega, ← ih h']
      rfl

theorem own_zerosP (w : World) (n : Nat) (t : TypeId) : OwnV (w.alloc (.cells (List.replicate (n * 2) (Value.int .i64 0)).toArray t)) w.heap.size (some ⟨w.heap.size, 0, none⟩) (pvals (List.replicate n (0, 0))) :=
  .inr ⟨_, _, t, rfl, Nat.le_refl _, Blk.new w _ t, fun i u h => by rw [pvals_zeros] at h; rw [List.getElem?_toArray]; exact h⟩

theorem Try.infoCell : (Try.prog.info? 134).map (fun i => (i.zero, i.size, i.bytes)) = some (some (.agg #[.int .i64 0, .int .i64 0]), 2, 16) := by kernel_rfl

theorem make_capCell (n : Nat) (hn : n ≤ 1048576) (w : World) : (Instr.makeSlice 128 (.int .i64 0) (.int .i64 (n : Int))).run Try.prog w = .ok (.slice (some ⟨w.heap.size, 0, none⟩) 0 n) (w.alloc (.cells (List.replicate (n * 2) (Value.int .i64 0)).toArray 134)) := by
  obtain ⟨i0, hi, hz0, hz1, hz2⟩ := info_parts Try.infoCell
  have := run_make (P := Try.prog) w 128 134 i0 (.agg #[.int .i64 0, .int .i64 0]) Try.underlying128 hi hz0 .i64 .i64 0 n (by omega) (by omega) (by rw [hz2]; omega) (by omega)
  rw [this, hz1, Int.toNat_natCast, ← madeCells_two]; rfl

theorem make_fullCell (n : Nat) (hn : n ≤ 1048576) (w : World) : (Instr.makeSlice 128 (.int .i64 (n : Int)) (.int .i64 (n : Int))).run Try.prog w = .ok (.slice (some ⟨w.heap.size, 0, none⟩) n n) (w.alloc (.cells (List.replicate (n * 2) (Value.int .i64 0)).toArray 134)) := by
  obtain ⟨i0, hi, hz0, hz1, hz2⟩ := info_parts Try.infoCell
  have := run_make (P := Try.prog) w 128 134 i0 (.agg #[.int .i64 0, .int .i64 0]) Try.underlying128 hi hz0 .i64 .i64 n n (by omega) (Int.le_refl _) (by rw [hz2]; omega) (by omega)
  rw [this, hz1, Int.toNat_natCast, ← madeCells_two]; rfl

theorem outs_capCell {w wr : World} (n : Nat) (hn : n ≤ 1048576) (h : Below w.heap.size w wr) : OutsT 134 w (wr.alloc (.cells (List.replicate (n * 2) (Value.int .i64 0)).toArray 134)) (.slice (some ⟨wr.heap.size, 0, none⟩) 0 n) [] :=
  ⟨World.ownsRow_made wr _ n h.size (by unfold maxLen; omega) (by simp), h.alloc h.size _⟩

theorem Try.infoStrip : (Try.prog.info? 31).map (fun i => (i.zero, i.size, i.bytes)) = some (some (.agg #[.int .i64 0, .int .i64 0]), 2, 16) := by kernel_rfl

theorem make_capStrip (n : Nat) (hn : n ≤ 1048576) (w : World) : (Instr.makeSlice 46 (.int .i64 0) (.int .i64 (n : Int))).run Try.prog w = .ok (.slice (some ⟨w.heap.size, 0, none⟩) 0 n) (w.alloc (.cells (List.replicate (n * 2) (Value.int .i64 0)).toArray 31)) := by
  obtain ⟨i0, hi, hz0, hz1, hz2⟩ := info_parts Try.infoStrip
  have := run_make (P := Try.prog) w 46 31 i0 (.agg #[.int .i64 0, .int .i64 0]) Try.underlying46 hi hz0 .i64 .i64 0 n (by omega) (by omega) (by rw [hz2]; omega) (by omega)
  rw [this, hz1, Int.toNat_natCast, ← madeCells_two]; rfl

theorem make_fullStrip (n : Nat) (hn : n ≤ 1048576) (w : World) : (Instr.makeSlice 46 (.int .i64 (n : Int)) (.int .i64 (n : Int))).run Try.prog w = .ok (.slice (some ⟨w.heap.size, 0, none⟩) n n) (w.alloc (.cells (List.replicate (n * 2) (Value.int .i64 0)).toArray 31)) := by
  obtain ⟨i0, hi, hz0, hz1, hz2⟩ := info_parts Try.infoStrip
  have := run_make (P := Try.prog) w 46 31 i0 (.agg #[.int .i64 0, .int .i64 0]) Try.underlying46 hi hz0 .i64 .i64 n n (by omega) (Int.le_refl _) (by rw [hz2]; omega) (by omega)
  rw [this, hz1, Int.toNat_natCast, ← madeCells_two]; rfl

theorem outs_capStrip {w wr : World} (n : Nat) (hn : n ≤ 1048576) (h : Below w.heap.size w wr) : OutsT 31 w (wr.alloc (.cells (List.replicate (n * 2) (Value.int .i64 0)).toArray 31)) (.slice (some ⟨wr.heap.size, 0, none⟩) 0 n) [] :=
  ⟨World.ownsRow_made wr _ n h.size (by unfold maxLen; omega) (by simp), h.alloc h.size _⟩

theorem make_capCellA (n : Nat) (hn : n ≤ 1048576) (w : World) : (Instr.makeSlice 128 (.int .i64 0) (.int .i64 (n : Int))).run Try.prog w = .ok (.slice (some ⟨w.heap.size, 0, none⟩) 0 n) (w.alloc (.cells (Array.replicate (n * 2) (Value.int .i64 0)) 134)) := by
  have := make_capCell n hn w
  rwa [List.toArray_replicate] at this

theorem outs_capCellA {w wr : World} (n : Nat) (hn : n ≤ 1048576) (h : Below w.heap.size w wr) : OutsT 134 w (wr.alloc (.cells (Array.replicate (n * 2) (Value.int .i64 0)) 134)) (.slice (some ⟨wr.heap.size, 0, none⟩) 0 n) [] := by
  have := outs_capCell n hn h
  rwa [List.toArray_replicate] at this

/-! ### Lists of numbers of which some are made anew -/

def mixd (d : Nat → Bool) (A B : Nat → Option Nat) (i : Nat) : Option Nat := if d i then A i else B i
def memD (js : List Nat) (t i : Nat) : Bool := decide (i ∈ js.take t)

theorem memD_zero (js : List Nat) (i : Nat) : memD js 0 i = false := by simp [memD]
theorem memD_all (js : List Nat) (i : Nat) : memD js js.length i = decide (i ∈ js) := by simp [memD]
theorem memD_next {js : List Nat} {t : Nat} (h : t < js.length) (i : Nat) : memD js (t + 1) i = (memD js t i || decide (i = js[t])) := by
  unfold memD
  rw [List.take_succ_eq_append_getElem h, ← Bool.decide_or, decide_eq_decide, List.mem_append, List.mem_singleton]
theorem memD_here {js : List Nat} (hn : js.Nodup) {t : Nat} (h : t < js.length) : memD js t js[t] = false := by
  unfold memD
  rw [decide_eq_false]
  intro hm
  obtain ⟨i, hi, he⟩ := List.mem_iff_getElem.1 hm
  rw [List.length_take] at hi
  rw [List.getElem_take] at he
  have := (List.getElem_inj hn).1 he
  omega

theorem agd_zero {n : Nat} {js : List Nat} {F : Nat → Nat} {A B : Nat → Option Nat} (h : Ag n F B) : Ag n F (mixd (memD js 0) A B) := fun q hq => by
  unfold mixd; rw [memD_zero]; exact h q hq

theorem agd_put {n t j v : Nat} {js : List Nat} {F : Nat → Nat} {A B : Nat → Option Nat} (h : Ag n F (mixd (memD js t) A B)) (ht : t < js.length) (hj : js[t] = j) (hc : canon .f32 v = A j) (hv : v < 2 ^ 32) : Ag n (up1 F j v) (mixd (memD js (t + 1)) A B) := fun q hq => by
  unfold up1 mixd
  rw [memD_next ht, hj]
  by_cases e : q = j
  · subst e; rw [if_pos rfl, decide_eq_true rfl, Bool.or_true, if_pos rfl]; exact ⟨hc, hv⟩
  · rw [if_neg e, decide_eq_false e, Bool.or_false]
    exact h q hq

theorem agd_same {n t j : Nat} {js : List Nat} {F : Nat → Nat} {A B : Nat → Option Nat} (h : Ag n F (mixd (memD js t) A B)) (ht : t < js.length) (hj : js[t] = j) (he : A j = B j) : Ag n F (mixd (memD js (t + 1)) A B) := fun q hq => by
  have := h q hq
  unfold mixd at this ⊢
  rw [memD_next ht, hj]
  by_cases e : q = j
  · subst e
    rw [decide_eq_true rfl, Bool.or_true, if_pos rfl, he]
    cases hm : memD js t q
    · rw [hm] at this; exact this
    · rw [hm, if_pos rfl, he] at this; exact this
  · rw [decide_eq_false e, Bool.or_false]; exact this

theorem agd_here {n t j : Nat} {js : List Nat} {F : Nat → Nat} {A B : Nat → Option Nat} (h : Ag n F (mixd (memD js t) A B)) (hn : js.Nodup) (ht : t < js.length) (hj : js[t] = j) (hl : j < n) : canon .f32 (F j) = B j ∧ F j < 2 ^ 32 := by
  have := h j hl
  subst hj
  unfold mixd at this
  rw [memD_here hn ht] at this
  exact this

theorem agd_all {n : Nat} {js : List Nat} {F : Nat → Nat} {A B : Nat → Option Nat} (h : Ag n F (mixd (memD js js.length) A B)) : Ag n F (mixd (fun i => decide (i ∈ js)) A B) := fun q hq => by
  have := h q hq
  unfold mixd at this ⊢
  rw [memD_all] at this; exact this

/-- the cells for which a test holds, row by row -/
def pick (n : Nat) (p : Nat → Bool) : List Nat := (List.range n).filter p
def cellsT (m : Nat) (js : List Nat) : List (Int × Int) := js.map fun (j : Nat) => (((j % m : Nat) : Int), ((j / m : Nat) : Int))
theorem pick_zero (p : Nat → Bool) : pick 0 p = [] := rfl
theorem pick_yes {p : Nat → Bool} {n : Nat} (h : p n = true) : pick (n + 1) p = pick n p ++ [n] := by unfold pick; rw [List.range_succ, List.filter_append, List.filter_cons_of_pos h]; rfl
theorem pick_no {p : Nat → Bool} {n : Nat} (h : p n = false) : pick (n + 1) p = pick n p := by unfold pick; rw [List.range_succ, List.filter_append, List.filter_cons_of_neg (by simp [h])]; simp
theorem pick_len (n : Nat) (p : Nat → Bool) : (pick n p).length ≤ n := by have := List.length_filter_le p (List.range n); rw [List.length_range] at this; exact this
theorem pick_nodup (n : Nat) (p : Nat → Bool) : (pick n p).Nodup := List.nodup_range.filter _
theorem pick_mem {n : Nat} {p : Nat → Bool} {i : Nat} (h : i < n) : decide (i ∈ pick n p) = p i := by
  unfold pick
  cases hp : p i
  · rw [decide_eq_false]; rw [List.mem_filter]; intro h2; rw [hp] at h2; exact Bool.noConfusion h2.2
  · rw [decide_eq_true]; rw [List.mem_filter]; exact ⟨List.mem_range.2 h, hp⟩
theorem pick_lt {n : Nat} {p : Nat → Bool} {i : Nat} (h : i ∈ pick n p) : i < n := List.mem_range.1 (List.mem_filter.1 h).1
theorem cellsT_snoc (m : Nat) (js : List Nat) (j : Nat) : cellsT m (js ++ [j]) = cellsT m js ++ [(((j % m : Nat) : Int), ((j / m : Nat) : Int))] := by unfold cellsT; rw [List.map_append]; rfl
theorem cellsT_len (m : Nat) (js : List Nat) : (cellsT m js).length = js.length := List.length_map ..
theorem agd_pick {n : Nat} {p : Nat → Bool} {F : Nat → Nat} {A B : Nat → Option Nat} (h : Ag n F (mixd (memD (pick n p) (pick n p).length) A B)) : Ag n F (mixd p A B) := fun q hq => by
  have := agd_all h q hq
  unfold mixd at this ⊢
  have e : (fun i => decide (i ∈ pick n p)) q = p q := pick_mem hq
  rw [e] at this; exact this
theorem mixd_true (A B : Nat → Option Nat) : mixd (fun _ => true) A B = A := rfl

/-- a cell of a list of cells -/
theorem cell_row {w : World} {a : Option Addr} {m : Nat} {js : List Nat} (h : RowV w a (pvals (cellsT m js))) {t : Nat} (ht : t < js.length) : ∃ b off, a = some ⟨b, off, none⟩ ∧ w.cell? ⟨b, off + t * 2, none⟩ = some (.int .i64 ((js[t] % m : Nat) : Int)) ∧ w.cell? ⟨b, off + t * 2 + 1, none⟩ = some (.int .i64 ((js[t] / m : Nat) : Int)) := by
  have hl : t < (cellsT m js).length := by rw [cellsT_len]; exact ht
  obtain ⟨g1, g2⟩ := pvals_get hl
  obtain ⟨b, off, rfl, hc⟩ := h (t * 2) _ g1
  obtain ⟨b', off', e', hc2⟩ := h (t * 2 + 1) _ g2
  cases e'
  refine ⟨b, off, rfl, ?_, ?_⟩
  · rw [hc]; simp only [cellsT, List.getElem_map]
  · rw [show off + t * 2 + 1 = off + (t * 2 + 1) by omega, hc2]; simp only [cellsT, List.getElem_map]

end Go.Proofs.Ytedfbaeajofmnaa

end

section

namespace Go.Proofs.Ytedfbaeajofmnaa
open Go Ieee Go.RowKit
set_option linter.unusedVariables false

theorem beside_below {m k x y : Nat} (h1 : 3 ≤ m) (h3 : 3 ≤ k) (hx : x < m) (hy : y < k) : ((x : Int)) % (m : Int) = ((x : Nat) : Int) ∧ ((y : Int) + 1) % (k : Int) = (((y + 1) % k : Nat) : Int) := by
  exact ⟨Int.emod_eq_of_lt (by omega) (by omega), by rw [Int.natCast_emod]; simp⟩

theorem implbelowI (m k x y : Nat) (wb : Bool) (w : World) (h1 : 3 ≤ m) (h2 : m ≤ 16) (h3 : 3 ≤ k) (h4 : k ≤ 16) (hx : x < m) (hy : y < k) : Calls Try.prog 152 #[.agg #[.int .i64 (m : Int), .int .i64 (k : Int), .bool wb], .agg #[.int .i64 (x : Int), .int .i64 (y : Int)]] w fun e w' => e = .returned (.agg #[.int .i64 (((x : Int)) % (m : Int)), .int .i64 (((y : Int) + 1) % (k : Int))]) ∧ Below w.heap.size w w' := by
  have X := Blk.new w #[.int .i64 (m : Int), .int .i64 (k : Int), .bool wb] 80
  have C := Blk.new1 w (.cells #[.int .i64 (m : Int), .int .i64 (k : Int), .bool wb] 80) #[.int .i64 (x : Int), .int .i64 (y : Int)] 134
  replace X := X.alloc (.cells #[.int .i64 (x : Int), .int .i64 (y : Int)] 134)
  have R := Blk.new2 w (.cells #[.int .i64 (m : Int), .int .i64 (k : Int), .bool wb] 80) (.cells #[.int .i64 (x : Int), .int .i64 (y : Int)] 134) #[.int .i64 0, .int .i64 0] 134
  replace X := X.alloc (.cells #[.int .i64 0, .int .i64 0] 134)
  replace C := C.alloc (.cells #[.int .i64 0, .int .i64 0] 134)
  have HB : Hid (Below w.heap.size w (((w.alloc (.cells #[.int .i64 (m : Int), .int .i64 (k : Int), .bool wb] 80)).alloc (.cells #[.int .i64 (x : Int), .int .i64 (y : Int)] 134)).alloc (.cells #[.int .i64 0, .int .i64 0] 134))) := Lib.hid ((((Below.refl w.heap.size w).alloc (by simp <;> omega) _).alloc (by simp <;> omega) _).alloc (by simp <;> omega) _)
  go_enter Try.func152, Try.ntmps152
  go_wp2_with fail
  generalize (((w.alloc (.cells #[.int .i64 (m : Int), .int .i64 (k : Int), .bool wb] 80)).alloc (.cells #[.int .i64 (x : Int), .int .i64 (y : Int)] 134)).alloc (.cells #[.int .i64 0, .int .i64 0] 134)) = u1 at *
  obtain ⟨Xc, Xf⟩ := X.open
  obtain ⟨Cc, Cf⟩ := C.open
  go_wp2_with fail
  refine (implWrapped _ _ _ _ _ _ (by omega) (by omega) (by omega) (by omega) (by omega) (by omega) (by omega) (by omega)).mono ?_
  rintro r u2 ⟨rfl, q⟩
  clear Xc Xf
  clear Cc Cf
  replace X := X.later q
  replace C := C.later q
  replace R := R.later q
  replace HB := Lib.hid (HB.out.trans (q.mono HB.out.size))
  clear q
  obtain ⟨Rc, Rf⟩ := R.open
  go_wp2
  refine bodyPost_ret (v := .agg #[.int .i64 (((x : Int)) % (m : Int)), .int .i64 (((y : Int) + 1) % (k : Int))]) (by simp [results, Try.results152, go_sem, Rc]) rfl ⟨rfl, ((HB.out.setCell (p := ⟨w.heap.size + 1 + 1, 0, none⟩) (by first | omega | (simp <;> omega)) _).setCell (p := ⟨w.heap.size + 1 + 1, 1, none⟩) (by first | omega | (simp <;> omega)) _)⟩

theorem implbelowC (m k x y : Nat) (wb : Bool) (w : World) (h1 : 3 ≤ m) (h2 : m ≤ 16) (h3 : 3 ≤ k) (h4 : k ≤ 16) (hx : x < m) (hy : y < k) : Calls Try.prog 152 #[.agg #[.int .i64 (m : Int), .int .i64 (k : Int), .bool wb], .agg #[.int .i64 (x : Int), .int .i64 (y : Int)]] w fun e w' => e = .returned (.agg #[.int .i64 ((x : Nat) : Int), .int .i64 (((y + 1) % k : Nat) : Int)]) ∧ Below w.heap.size w w' :=
  (implbelowI m k x y wb w h1 h2 h3 h4 hx hy).mono fun e w' ⟨h, b⟩ => ⟨by obtain ⟨e1, e2⟩ := beside_below h1 h3 hx hy; rw [h, e1, e2], b⟩

theorem implbelowV (m k x y z : Nat) (wb : Bool) (w : World) (h1 : 3 ≤ m) (h2 : m ≤ 16) (h3 : 3 ≤ k) (h4 : k ≤ 16) (hx : x < m) (hy : y < k) (hz : Hid (z = (y + 1) % k)) : Calls Try.prog 152 #[.agg #[.int .i64 (m : Int), .int .i64 (k : Int), .bool wb], .agg #[.int .i64 (x : Int), .int .i64 (y : Int)]] w fun e w' => e = .returned (.agg #[.int .i64 (x : Int), .int .i64 (z : Int)]) ∧ Below w.heap.size w w' :=
  (implbelowC m k x y wb w h1 h2 h3 h4 hx hy).mono fun e w' ⟨h, b⟩ => ⟨by rw [h, ← hz.out], b⟩

theorem beside_right {m k x y : Nat} (h1 : 3 ≤ m) (h3 : 3 ≤ k) (hx : x < m) (hy : y < k) : ((x : Int) + 1) % (m : Int) = (((x + 1) % m : Nat) : Int) ∧ ((y : Int)) % (k : Int) = ((y : Nat) : Int) := by
  exact ⟨by rw [Int.natCast_emod]; simp, Int.emod_eq_of_lt (by omega) (by omega)⟩

theorem implrightI (m k x y : Nat) (wb : Bool) (w : World) (h1 : 3 ≤ m) (h2 : m ≤ 16) (h3 : 3 ≤ k) (h4 : k ≤ 16) (hx : x < m) (hy : y < k) : Calls Try.prog 153 #[.agg #[.int .i64 (m : Int), .int .i64 (k : Int), .bool wb], .agg #[.int .i64 (x : Int), .int .i64 (y : Int)]] w fun e w' => e = .returned (.agg #[.int .i64 (((x : Int) + 1) % (m : Int)), .int .i64 (((y : Int)) % (k : Int))]) ∧ Below w.heap.size w w' := by
  have X := Blk.new w #[.int .i64 (m : Int), .int .i64 (k : Int), .bool wb] 80
  have C := Blk.new1 w (.cells #[.int .i64 (m : Int), .int .i64 (k : Int), .bool wb] 80) #[.int .i64 (x : Int), .int .i64 (y : Int)] 134
  replace X := X.alloc (.cells #[.int .i64 (x : Int), .int .i64 (y : Int)] 134)
  have R := Blk.new2 w (.cells #[.int .i64 (m : Int), .int .i64 (k : Int), .bool wb] 80) (.cells #[.int .i64 (x : Int), .int .i64 (y : Int)] 134) #[.int .i64 0, .int .i64 0] 134
  replace X := X.alloc (.cells #[.int .i64 0, .int .i64 0] 134)
  replace C := C.alloc (.cells #[.int .i64 0, .int .i64 0] 134)
  have HB : Hid (Below w.heap.size w (((w.alloc (.cells #[.int .i64 (m : Int), .int .i64 (k : Int), .bool wb] 80)).alloc (.cells #[.int .i64 (x : Int), .int .i64 (y : Int)] 134)).alloc (.cells #[.int .i64 0, .int .i64 0] 134))) := Lib.hid ((((Below.refl w.heap.size w).alloc (by simp <;> omega) _).alloc (by simp <;> omega) _).alloc (by simp <;> omega) _)
  go_enter Try.func153, Try.ntmps153
  go_wp2_with fail
  generalize (((w.alloc (.cells #[.int .i64 (m : Int), .int .i64 (k : Int), .bool wb] 80)).alloc (.cells #[.int .i64 (x : Int), .int .i64 (y : Int)] 134)).alloc (.cells #[.int .i64 0, .int .i64 0] 134)) = u1 at *
  obtain ⟨Xc, Xf⟩ := X.open
  obtain ⟨Cc, Cf⟩ := C.open
  go_wp2_with fail
  refine (implWrapped _ _ _ _ _ _ (by omega) (by omega) (by omega) (by omega) (by omega) (by omega) (by omega) (by omega)).mono ?_
  rintro r u2 ⟨rfl, q⟩
  clear Xc Xf
  clear Cc Cf
  replace X := X.later q
  replace C := C.later q
  replace R := R.later q
  replace HB := Lib.hid (HB.out.trans (q.mono HB.out.size))
  clear q
  obtain ⟨Rc, Rf⟩ := R.open
  go_wp2
  refine bodyPost_ret (v := .agg #[.int .i64 (((x : Int) + 1) % (m : Int)), .int .i64 (((y : Int)) % (k : Int))]) (by simp [results, Try.results153, go_sem, Rc]) rfl ⟨rfl, ((HB.out.setCell (p := ⟨w.heap.size + 1 + 1, 0, none⟩) (by first | omega | (simp <;> omega)) _).setCell (p := ⟨w.heap.size + 1 + 1, 1, none⟩) (by first | omega | (simp <;> omega)) _)⟩

theorem implrightC (m k x y : Nat) (wb : Bool) (w : World) (h1 : 3 ≤ m) (h2 : m ≤ 16) (h3 : 3 ≤ k) (h4 : k ≤ 16) (hx : x < m) (hy : y < k) : Calls Try.prog 153 #[.agg #[.int .i64 (m : Int), .int .i64 (k : Int), .bool wb], .agg #[.int .i64 (x : Int), .int .i64 (y : Int)]] w fun e w' => e = .returned (.agg #[.int .i64 (((x + 1) % m : Nat) : Int), .int .i64 ((y : Nat) : Int)]) ∧ Below w.heap.size w w' :=
  (implrightI m k x y wb w h1 h2 h3 h4 hx hy).mono fun e w' ⟨h, b⟩ => ⟨by obtain ⟨e1, e2⟩ := beside_right h1 h3 hx hy; rw [h, e1, e2], b⟩

theorem implrightV (m k x y z : Nat) (wb : Bool) (w : World) (h1 : 3 ≤ m) (h2 : m ≤ 16) (h3 : 3 ≤ k) (h4 : k ≤ 16) (hx : x < m) (hy : y < k) (hz : Hid (z = (x + 1) % m)) : Calls Try.prog 153 #[.agg #[.int .i64 (m : Int), .int .i64 (k : Int), .bool wb], .agg #[.int .i64 (x : Int), .int .i64 (y : Int)]] w fun e w' => e = .returned (.agg #[.int .i64 (z : Int), .int .i64 (y : Int)]) ∧ Below w.heap.size w w' :=
  (implrightC m k x y wb w h1 h2 h3 h4 hx hy).mono fun e w' ⟨h, b⟩ => ⟨by rw [h, ← hz.out], b⟩

theorem beside_above {m k x y : Nat} (h1 : 3 ≤ m) (h3 : 3 ≤ k) (hx : x < m) (hy : y < k) : ((x : Int)) % (m : Int) = ((x : Nat) : Int) ∧ ((y : Int) - 1) % (k : Int) = (((y + (k - 1)) % k : Nat) : Int) := by
  exact ⟨Int.emod_eq_of_lt (by omega) (by omega), (by rw [Int.natCast_emod, Int.natCast_add, show ((k - 1 : Nat) : Int) = (k : Int) - 1 by omega, show (y : Int) + ((k : Int) - 1) = ((y : Int) - 1) + (k : Int) by omega, Int.add_emod_right])⟩

theorem implaboveI (m k x y : Nat) (wb : Bool) (w : World) (h1 : 3 ≤ m) (h2 : m ≤ 16) (h3 : 3 ≤ k) (h4 : k ≤ 16) (hx : x < m) (hy : y < k) : Calls Try.prog 135 #[.agg #[.int .i64 (m : Int), .int .i64 (k : Int), .bool wb], .agg #[.int .i64 (x : Int), .int .i64 (y : Int)]] w fun e w' => e = .returned (.agg #[.int .i64 (((x : Int)) % (m : Int)), .int .i64 (((y : Int) - 1) % (k : Int))]) ∧ Below w.heap.size w w' := by
  have X := Blk.new w #[.int .i64 (m : Int), .int .i64 (k : Int), .bool wb] 80
  have C := Blk.new1 w (.cells #[.int .i64 (m : Int), .int .i64 (k : Int), .bool wb] 80) #[.int .i64 (x : Int), .int .i64 (y : Int)] 134
  replace X := X.alloc (.cells #[.int .i64 (x : Int), .int .i64 (y : Int)] 134)
  have R := Blk.new2 w (.cells #[.int .i64 (m : Int), .int .i64 (k : Int), .bool wb] 80) (.cells #[.int .i64 (x : Int), .int .i64 (y : Int)] 134) #[.int .i64 0, .int .i64 0] 134
  replace X := X.alloc (.cells #[.int .i64 0, .int .i64 0] 134)
  replace C := C.alloc (.cells #[.int .i64 0, .int .i64 0] 134)
  have HB : Hid (Below w.heap.size w (((w.alloc (.cells #[.int .i64 (m : Int), .int .i64 (k : Int), .bool wb] 80)).alloc (.cells #[.int .i64 (x : Int), .int .i64 (y : Int)] 134)).alloc (.cells #[.int .i64 0, .int .i64 0] 134))) := Lib.hid ((((Below.refl w.heap.size w).alloc (by simp <;> omega) _).alloc (by simp <;> omega) _).alloc (by simp <;> omega) _)
  go_enter Try.func135, Try.ntmps135
  go_wp2_with fail
  generalize (((w.alloc (.cells #[.int .i64 (m : Int), .int .i64 (k : Int), .bool wb] 80)).alloc (.cells #[.int .i64 (x : Int), .int .i64 (y : Int)] 134)).alloc (.cells #[.int .i64 0, .int .i64 0] 134)) = u1 at *
  obtain ⟨Xc, Xf⟩ := X.open
  obtain ⟨Cc, Cf⟩ := C.open
  go_wp2_with fail
  refine (implWrapped _ _ _ _ _ _ (by omega) (by omega) (by omega) (by omega) (by omega) (by omega) (by omega) (by omega)).mono ?_
  rintro r u2 ⟨rfl, q⟩
  clear Xc Xf
  clear Cc Cf
  replace X := X.later q
  replace C := C.later q
  replace R := R.later q
  replace HB := Lib.hid (HB.out.trans (q.mono HB.out.size))
  clear q
  obtain ⟨Rc, Rf⟩ := R.open
  go_wp2
  refine bodyPost_ret (v := .agg #[.int .i64 (((x : Int)) % (m : Int)), .int .i64 (((y : Int) - 1) % (k : Int))]) (by simp [results, Try.results135, go_sem, Rc]) rfl ⟨rfl, ((HB.out.setCell (p := ⟨w.heap.size + 1 + 1, 0, none⟩) (by first | omega | (simp <;> omega)) _).setCell (p := ⟨w.heap.size + 1 + 1, 1, none⟩) (by first | omega | (simp <;> omega)) _)⟩

theorem implaboveC (m k x y : Nat) (wb : Bool) (w : World) (h1 : 3 ≤ m) (h2 : m ≤ 16) (h3 : 3 ≤ k) (h4 : k ≤ 16) (hx : x < m) (hy : y < k) : Calls Try.prog 135 #[.agg #[.int .i64 (m : Int), .int .i64 (k : Int), .bool wb], .agg #[.int .i64 (x : Int), .int .i64 (y : Int)]] w fun e w' => e = .returned (.agg #[.int .i64 ((x : Nat) : Int), .int .i64 (((y + (k - 1)) % k : Nat) : Int)]) ∧ Below w.heap.size w w' :=
  (implaboveI m k x y wb w h1 h2 h3 h4 hx hy).mono fun e w' ⟨h, b⟩ => ⟨by obtain ⟨e1, e2⟩ := beside_above h1 h3 hx hy; rw [h, e1, e2], b⟩

theorem implaboveV (m k x y z : Nat) (wb : Bool) (w : World) (h1 : 3 ≤ m) (h2 : m ≤ 16) (h3 : 3 ≤ k) (h4 : k ≤ 16) (hx : x < m) (hy : y < k) (hz : Hid (z = (y + (k - 1)) % k)) : Calls Try.prog 135 #[.agg #[.int .i64 (m : Int), .int .i64 (k : Int), .bool wb], .agg #[.int .i64 (x : Int), .int .i64 (y : Int)]] w fun e w' => e = .returned (.agg #[.int .i64 (x : Int), .int .i64 (z : Int)]) ∧ Below w.heap.size w w' :=
  (implaboveC m k x y wb w h1 h2 h3 h4 hx hy).mono fun e w' ⟨h, b⟩ => ⟨by rw [h, ← hz.out], b⟩

theorem beside_left {m k x y : Nat} (h1 : 3 ≤ m) (h3 : 3 ≤ k) (hx : x < m) (hy : y < k) : ((x : Int) - 1) % (m : Int) = (((x + (m - 1)) % m : Nat) : Int) ∧ ((y : Int)) % (k : Int) = ((y : Nat) : Int) := by
  exact ⟨(by rw [Int.natCast_emod, Int.natCast_add, show ((m - 1 : Nat) : Int) = (m : Int) - 1 by omega, show (x : Int) + ((m : Int) - 1) = ((x : Int) - 1) + (m : Int) by omega, Int.add_emod_right]), Int.emod_eq_of_lt (by omega) (by omega)⟩

theorem implleftI (m k x y : Nat) (wb : Bool) (w : World) (h1 : 3 ≤ m) (h2 : m ≤ 16) (h3 : 3 ≤ k) (h4 : k ≤ 16) (hx : x < m) (hy : y < k) : Calls Try.prog 134 #[.agg #[.int .i64 (m : Int), .int .i64 (k : Int), .bool wb], .agg #[.int .i64 (x : Int), .int .i64 (y : Int)]] w fun e w' => e = .returned (.agg #[.int .i64 (((x : Int) - 1) % (m : Int)), .int .i64 (((y : Int)) % (k : Int))]) ∧ Below w.heap.size w w' := by
  have X := Blk.new w #[.int .i64 (m : Int), .int .i64 (k : Int), .bool wb] 80
  have C := Blk.new1 w (.cells #[.int .i64 (m : Int), .int .i64 (k : Int), .bool wb] 80) #[.int .i64 (x : Int), .int .i64 (y : Int)] 134
  replace X := X.alloc (.cells #[.int .i64 (x : Int), .int .i64 (y : Int)] 134)
  have R := Blk.new2 w (.cells #[.int .i64 (m : Int), .int .i64 (k : Int), .bool wb] 80) (.cells #[.int .i64 (x : Int), .int .i64 (y : Int)] 134) #[.int .i64 0, .int .i64 0] 134
  replace X := X.alloc (.cells #[.int .i64 0, .int .i64 0] 134)
  replace C := C.alloc (.cells #[.int .i64 0, .int .i64 0] 134)
  have HB : Hid (Below w.heap.size w (((w.alloc (.cells #[.int .i64 (m : Int), .int .i64 (k : Int), .bool wb] 80)).alloc (.cells #[.int .i64 (x : Int), .int .i64 (y : Int)] 134)).alloc (.cells #[.int .i64 0, .int .i64 0] 134))) := Lib.hid ((((Below.refl w.heap.size w).alloc (by simp <;> omega) _).alloc (by simp <;> omega) _).alloc (by simp <;> omega) _)
  go_enter Try.func134, Try.ntmps134
  go_wp2_with fail
  generalize (((w.alloc (.cells #[.int .i64 (m : Int), .int .i64 (k : Int), .bool wb] 80)).alloc (.cells #[.int .i64 (x : Int), .int .i64 (y : Int)] 134)).alloc (.cells #[.int .i64 0, .int .i64 0] 134)) = u1 at *
  obtain ⟨Xc, Xf⟩ := X.open
  obtain ⟨Cc, Cf⟩ := C.open
  go_wp2_with fail
  refine (implWrapped _ _ _ _ _ _ (by omega) (by omega) (by omega) (by omega) (by omega) (by omega) (by omega) (by omega)).mono ?_
  rintro r u2 ⟨rfl, q⟩
  clear Xc Xf
  clear Cc Cf
  replace X := X.later q
  replace C := C.later q
  replace R := R.later q
  replace HB := Lib.hid (HB.out.trans (q.mono HB.out.size))
  clear q
  obtain ⟨Rc, Rf⟩ := R.open
  go_wp2
  refine bodyPost_ret (v := .agg #[.int .i64 (((x : Int) - 1) % (m : Int)), .int .i64 (((y : Int)) % (k : Int))]) (by simp [results, Try.results134, go_sem, Rc]) rfl ⟨rfl, ((HB.out.setCell (p := ⟨w.heap.size + 1 + 1, 0, none⟩) (by first | omega | (simp <;> omega)) _).setCell (p := ⟨w.heap.size + 1 + 1, 1, none⟩) (by first | omega | (simp <;> omega)) _)⟩

theorem implleftC (m k x y : Nat) (wb : Bool) (w : World) (h1 : 3 ≤ m) (h2 : m ≤ 16) (h3 : 3 ≤ k) (h4 : k ≤ 16) (hx : x < m) (hy : y < k) : Calls Try.prog 134 #[.agg #[.int .i64 (m : Int), .int .i64 (k : Int), .bool wb], .agg #[.int .i64 (x : Int), .int .i64 (y : Int)]] w fun e w' => e = .returned (.agg #[.int .i64 (((x + (m - 1)) % m : Nat) : Int), .int .i64 ((y : Nat) : Int)]) ∧ Below w.heap.size w w' :=
  (implleftI m k x y wb w h1 h2 h3 h4 hx hy).mono fun e w' ⟨h, b⟩ => ⟨by obtain ⟨e1, e2⟩ := beside_left h1 h3 hx hy; rw [h, e1, e2], b⟩

theorem implleftV (m k x y z : Nat) (wb : Bool) (w : World) (h1 : 3 ≤ m) (h2 : m ≤ 16) (h3 : 3 ≤ k) (h4 : k ≤ 16) (hx : x < m) (hy : y < k) (hz : Hid (z = (x + (m - 1)) % m)) : Calls Try.prog 134 #[.agg #[.int .i64 (m : Int), .int .i64 (k : Int), .bool wb], .agg #[.int .i64 (x : Int), .int .i64 (y : Int)]] w fun e w' => e = .returned (.agg #[.int .i64 (z : Int), .int .i64 (y : Int)]) ∧ Below w.heap.size w w' :=
  (implleftC m k x y wb w h1 h2 h3 h4 hx hy).mono fun e w' ⟨h, b⟩ => ⟨by rw [h, ← hz.out], b⟩

/-- what a call may hand back in worlds that grow from u: at, mulNumber, or another one -/
def SpStep (u : World) (D : FuncId → Value → Prop) (f : FuncId) (args : Array Value) (v : Value) : Prop :=
  if f = 133 then ∀ g o x y : Nat, args = #[.pointer (some ⟨g, o, none⟩), .agg #[.int .i64 (x : Int), .int .i64 (y : Int)]] → u.cell? ⟨g, o + (16 * y + x), none⟩ = some v
  else if f = 137 then ∀ p q : Nat, args = #[.float .f32 p, .float .f32 q] → ∃ r : Nat, v = .float .f32 r ∧ canon .f32 r = fop .mul .f32 (canon .f32 p) (canon .f32 q) ∧ r < 2 ^ 32
  else D f v

theorem spAt {u w' : World} {D : FuncId → Value → Prop} {g o x y v : Nat} (hu : Grows u w') (hx : x < 16) (hy : y < 16) (hc : u.cell? ⟨g, o + (16 * y + x), none⟩ = some (.float .f32 v)) :
    Calls Try.prog 133 #[.pointer (some ⟨g, o, none⟩), .agg #[.int .i64 (x : Int), .int .i64 (y : Int)]] w' fun e w'' => ∃ z, e = .returned z ∧ SpStep u D 133 #[.pointer (some ⟨g, o, none⟩), .agg #[.int .i64 (x : Int), .int .i64 (y : Int)]] z ∧ Grows u w'' :=
  (implAt g o x y v w' hx hy (by rw [Below.cell hu (lt_of_cell hc)]; exact hc)).mono fun e w'' ⟨he, hb⟩ => ⟨_, he, (by
    unfold SpStep; rw [if_pos rfl]
    intro g' o' x' y' h
    have h0 := congrArg (fun z : Array Value => z[0]?) h
    have h1 := congrArg (fun z : Array Value => z[1]?) h
    simp only [List.getElem?_toArray, List.getElem?_cons_succ, List.getElem?_cons_zero, Option.some.injEq, Value.pointer.injEq, Addr.mk.injEq, Value.agg.injEq, Array.mk.injEq, List.cons.injEq, Value.int.injEq, Int.natCast_inj, and_true, true_and] at h0 h1
    rw [← h0.1, ← h0.2, ← h1.1, ← h1.2]; exact hc), Grows.next hu hb⟩

theorem spAt_out {u : World} {D : FuncId → Value → Prop} {g o x y v : Nat} {z : Value} (h : SpStep u D 133 #[.pointer (some ⟨g, o, none⟩), .agg #[.int .i64 (x : Int), .int .i64 (y : Int)]] z) (hc : u.cell? ⟨g, o + (16 * y + x), none⟩ = some (.float .f32 v)) : z = .float .f32 v := by
  unfold SpStep at h; rw [if_pos rfl] at h
  have := h g o x y rfl
  rw [hc] at this
  injection this with e
  exact e.symm

theorem spMul {u w' : World} {D : FuncId → Value → Prop} {p q : Nat} (hu : Grows u w') :
    Calls Try.prog 137 #[.float .f32 p, .float .f32 q] w' fun e w'' => ∃ z, e = .returned z ∧ SpStep u D 137 #[.float .f32 p, .float .f32 q] z ∧ Grows u w'' :=
  (mulN p q w').mono fun e w'' ⟨r, n, he, hw, hc, hr⟩ => ⟨_, he, (by
    unfold SpStep; rw [if_neg (by decide), if_pos rfl]
    intro p' q' h
    have h0 := congrArg (fun z : Array Value => z[0]?) h
    have h1 := congrArg (fun z : Array Value => z[1]?) h
    simp only [List.getElem?_toArray, List.getElem?_cons_succ, List.getElem?_cons_zero, Option.some.injEq, Value.float.injEq, true_and] at h0 h1
    subst h0; subst h1
    exact ⟨r, rfl, hc, hr⟩), by rw [hw]; exact Grows.drewN n hu⟩

theorem spMul_out {u : World} {D : FuncId → Value → Prop} {p q : Nat} {z : Value} (h : SpStep u D 137 #[.float .f32 p, .float .f32 q] z) : ∃ r : Nat, z = .float .f32 r ∧ canon .f32 r = fop .mul .f32 (canon .f32 p) (canon .f32 q) ∧ r < 2 ^ 32 := by
  unfold SpStep at h; rw [if_neg (by decide), if_pos rfl] at h
  exact h p q rfl

theorem spStep_other {u : World} {D : FuncId → Value → Prop} {f : FuncId} {args : Array Value} {z : Value} (h1 : f ≠ 133) (h2 : f ≠ 137) : SpStep u D f args z ↔ D f z := by
  unfold SpStep; rw [if_neg h1, if_neg h2]

theorem implCellAtG (m k j p q : Nat) (wb : Bool) (w : World) (h1 : 3 ≤ m) (h2 : m ≤ 16) (hj : j ≤ 256) (hp : Hid (p = j % m)) (hq : Hid (q = j / m)) : Calls Try.prog 123 #[.agg #[.int .i64 (m : Int), .int .i64 (k : Int), .bool wb], .int .i64 (j : Int)] w fun e w' => e = .returned (.agg #[.int .i64 (p : Int), .int .i64 (q : Int)]) ∧ Below w.heap.size w w' :=
  (implCellAt (m : Int) (k : Int) (j : Int) wb w (by omega) (by omega) (by omega) (by omega)).mono fun e w' ⟨h, b⟩ => ⟨by rw [h, hp.out, hq.out, Int.natCast_emod, Int.natCast_ediv], b⟩

theorem gf_cells {w : World} {g m k p q j : Nat} {cs : Array Value} {t : TypeId} {e x y : Nat → Nat} (G : Blk w g cs t) (h : GF cs m k e x y) (hp : p < m) (hq : q < k) (hj : p + m * q = j) :
    w.cell? ⟨g, 0 + (16 * q + p), none⟩ = some (.float .f32 (e j)) ∧ w.cell? ⟨g, 256 + (16 * q + p), none⟩ = some (.float .f32 (x j)) ∧ w.cell? ⟨g, 512 + (16 * q + p), none⟩ = some (.float .f32 (y j)) := by
  subst hj; exact ⟨gr_place G h.2.1 hp hq, gr_place G h.2.2.1 hp hq, gr_place G h.2.2.2 hp hq⟩

theorem gf_setX {cs : Array Value} {m k p q j v : Nat} {E X Y : Nat → Nat} (h : GF cs m k E X Y) (hm : m ≤ 16) (hk : k ≤ 16) (hp : p < m) (hq : q < k) (hj : p + m * q = j) : GF (cs.setIfInBounds (256 + (16 * q + p)) (.float .f32 v)) m k E (up1 X j v) Y := by
  subst hj; obtain ⟨h1, h2, h3, h4⟩ := h
  exact ⟨af_set h1 _ _, gr_other h2 _ hm (by omega), gr_set h3 h1 hm (by omega) hp hq v, gr_other h4 _ hm (by omega)⟩
theorem gf_setY {cs : Array Value} {m k p q j v : Nat} {E X Y : Nat → Nat} (h : GF cs m k E X Y) (hm : m ≤ 16) (hk : k ≤ 16) (hp : p < m) (hq : q < k) (hj : p + m * q = j) : GF (cs.setIfInBounds (512 + (16 * q + p)) (.float .f32 v)) m k E X (up1 Y j v) := by
  subst hj; obtain ⟨h1, h2, h3, h4⟩ := h
  exact ⟨af_set h1 _ _, gr_other h2 _ hm (by omega), gr_other h3 _ hm (by omega), gr_set h4 h1 hm (by omega) hp hq v⟩
theorem gf_setE {cs : Array Value} {m k p q j v : Nat} {E X Y : Nat → Nat} (h : GF cs m k E X Y) (hm : m ≤ 16) (hk : k ≤ 16) (hp : p < m) (hq : q < k) (hj : p + m * q = j) : GF (cs.setIfInBounds (0 + (16 * q + p)) (.float .f32 v)) m k (up1 E j v) X Y := by
  subst hj; obtain ⟨h1, h2, h3, h4⟩ := h
  exact ⟨af_set h1 _ _, gr_set h2 h1 hm (by omega) hp hq v, gr_other h3 _ hm (by omega), gr_other h4 _ hm (by omega)⟩

end Go.Proofs.Ytedfbaeajofmnaa

end

section

namespace Go.Proofs.Ytedfbaeajofmnaa
open Go Ieee Go.RowKit
set_option linter.unusedVariables false
set_option linter.unusedSimpArgs false

def cellV (m j : Nat) : Value := .agg #[.int .i64 ((j % m : Nat) : Int), .int .i64 ((j / m : Nat) : Int)]

set_option maxHeartbeats 8000000 in
set_option maxRecDepth 100000 in
theorem implCellsWhere (m k n : Nat) (wb : Bool) (fc : FuncId) (r1 k1 : Array Value) (p : Nat → Bool) (w : World) (h1 : 3 ≤ m) (h2 : m ≤ 16) (h3 : 3 ≤ k) (h4 : k ≤ 16) (hn : Hid (n = m * k)) (gC : IsGo fc)
    (hC : ∀ i : Nat, i < n → ∀ w', Below w.heap.size w w' → Calls Try.prog fc (r1 ++ #[cellV m i] ++ k1) w' fun e w'' => e = .returned (.bool (p i)) ∧ Below w'.heap.size w' w'') :
    Calls Try.prog 94 #[.agg #[.int .i64 (m : Int), .int .i64 (k : Int), .bool wb], .func (.func fc) r1 k1] w fun e w' => ∃ a c, e = .returned (.slice a (pick n p).length c) ∧ OwnV w' w.heap.size a (pvals (cellsT m (pick n p))) ∧ Below w.heap.size w w' := by
  have hn1 : n ≤ 256 := by rw [hn.out]; exact Nat.le_trans (Nat.mul_le_mul h2 h4) (by decide)
  have HN : Hid ((m : Int) * (k : Int) = (n : Int)) := Lib.hid (by rw [hn.out]; simp)
  have c1 : 0 ≤ (m : Int) * (k : Int) := by rw [HN.out]; omega
  have c2 : (m : Int) * (k : Int) ≤ 256 := by rw [HN.out]; omega
  have HC := Lib.hid hC; clear hC
  have hmk := make_capCellA n (by omega)
  obtain ⟨ti, hi0, hz0, hz1, hz2⟩ := info_parts Try.infoCell
  have HI := Lib.hid hi0; have HZ0 := Lib.hid hz0; have HZ1 := Lib.hid hz1; have HZ2 := Lib.hid hz2; clear hi0 hz0 hz1 hz2
  have hn0 : (0 : Int) ≤ (n : Int) := Int.natCast_nonneg n
  have Z := Blk.new w #[.int .i64 (m : Int), .int .i64 (k : Int), .bool wb] 80
  have HB : Hid (Below w.heap.size w (w.alloc (.cells #[.int .i64 (m : Int), .int .i64 (k : Int), .bool wb] 80))) := Lib.hid ((Below.refl w.heap.size w).alloc (by simp <;> omega) _)
  go_enter Try.func94, Try.ntmps94
  go_wp2_with fail
  generalize (w.alloc (.cells #[.int .i64 (m : Int), .int .i64 (k : Int), .bool wb] 80)) = u1 at *
  obtain ⟨Zc, Zf⟩ := Z.open
  have HB0 := HB; have zl0 := Z.lt
  go_wp2_with fail
  refine (implCount _ _ _ _ c1 c2).mono ?_
  rintro r u2 ⟨rfl, q⟩
  have HB1 := Lib.hid q
  clear Zc Zf
  replace Z := Z.later q
  replace HB := Lib.hid (HB.out.trans (q.mono HB.out.size))
  clear q
  rw [HN.out]
  obtain ⟨Zc, Zf⟩ := Z.open
  have O := outs_capCellA n (by omega) HB1.out
  have q := below_new u2 (.cells (Array.replicate (n * 2) (Value.int .i64 0)) 134)
  have HO := Lib.hid O; clear O
  clear Zc Zf
  replace Z := Z.later q
  replace HB := Lib.hid (HB.out.trans (q.mono HB.out.size))
  clear q
  obtain ⟨Zc, Zf⟩ := Z.open
  go_wp2_with fail
  generalize u2.alloc (.cells (Array.replicate (n * 2) (Value.int .i64 0)) 134) = u3 at *
  refine (implCount _ _ _ _ c1 c2).mono ?_
  rintro r u4 ⟨rfl, q⟩
  replace HO := Lib.hid (outsT_later HO.out q)
  clear Zc Zf
  replace Z := Z.later q
  replace HB := Lib.hid (HB.out.trans (q.mono HB.out.size))
  clear q
  rw [HN.out]; clear c1 c2 hmk
  generalize hv0 : (Value.slice (some ⟨u2.heap.size, 0, none⟩) 0 n) = vq at *
  clear hv0
  go_wp2
  go_loopw [5, 13] (fun q iv wr => ∃ j : Nat, j ≤ n ∧ iv = .int .i64 j ∧ OutsT 134 u1 wr q (cellsT m (pick j p)) ∧ Blk wr w.heap.size #[.int .i64 (m : Int), .int .i64 (k : Int), .bool wb] 80) (fun _ iv _ => n - (intOf iv).toNat)
  case atStart => exact ⟨0, Nat.zero_le _, rfl, HO.out, Z⟩
  case round =>
    clear HO Z HB
    obtain ⟨j, hj, rfl, O, Z⟩ := hrel
    have HO := Lib.hid O; clear O
    have HB : Hid (Below w.heap.size w wr) := Lib.hid (HB0.out.trans (HO.out.2.mono HB0.out.size))
    by_cases hlt : j < n
    · skip
      have hzl : (pick j p).length ≤ 256 := Nat.le_trans (pick_len _ _) (by omega)
      have zlt := Z.lt
      obtain ⟨Zc, Zf⟩ := Z.open
      go_wp2_with fail
      refine (implCellAtG m k j (j % m) (j / m) wb _ h1 h2 (by omega) (Lib.hid rfl) (Lib.hid rfl)).mono ?_
      rintro r v1 ⟨rfl, b1⟩
      clear Zc Zf
      replace Z := Z.later b1; replace HO := Lib.hid (outsT_later HO.out b1); replace HB := Lib.hid (HB.out.trans (b1.mono HB.out.size)); clear b1
      have C := Blk.new v1 #[.int .i64 ((j % m : Nat) : Int), .int .i64 ((j / m : Nat) : Int)] 134
      have b2 := below_new v1 (.cells #[.int .i64 ((j % m : Nat) : Int), .int .i64 ((j / m : Nat) : Int)] 134)
      replace Z := Z.later b2; replace HO := Lib.hid (outsT_later HO.out b2); replace HB := Lib.hid (HB.out.trans (b2.mono HB.out.size)); clear b2
      obtain ⟨Cc, Cf⟩ := C.open
      rcases hp : p j with _ | _
      · skip
        have HPK : Hid (pick (j + 1) p = pick j p) := Lib.hid (pick_no hp)
        have HCJ : Hid (∀ w', Below w.heap.size w w' → Calls Try.prog fc (r1 ++ #[.agg #[.int .i64 ((j % m : Nat) : Int), .int .i64 ((j / m : Nat) : Int)]] ++ k1) w' fun e w'' => e = .returned (.bool false) ∧ Below w'.heap.size w' w'') := Lib.hid (fun w' hw' => by have h9 := HC.out j hlt w' hw'; rw [hp] at h9; exact h9)
        clear hp
        generalize hzs : pick j p = zs at *; clear hzs
        have hcl : (cellsT m zs).length ≤ 256 := by rw [cellsT_len]; exact hzl
        go_wp2_with (refine wpList_callV fc r1 k1 rfl gC [.agg #[.int .i64 ((j % m : Nat) : Int), .int .i64 ((j / m : Nat) : Int)]] rfl _ (HCJ.out _ HB.out) ?_; rintro e v5 ⟨rfl, q⟩; refine ⟨_, rfl, ?_⟩; replace Z := Z.later q; replace C := C.later q; replace HO := Lib.hid (outsT_later HO.out q); replace HB := Lib.hid (HB.out.trans (q.mono HB.out.size)); clear q Cc Cf; obtain ⟨Cc, Cf⟩ := C.open)
        go_roundw
        case rel => exact ⟨j + 1, by omega, by go_num, by rw [HPK.out]; exact HO.out, Z⟩
        case measure => simp [intOf]; omega
      · skip
        have HPK : Hid (pick (j + 1) p = pick j p ++ [j]) := Lib.hid (pick_yes hp)
        have HCJ : Hid (∀ w', Below w.heap.size w w' → Calls Try.prog fc (r1 ++ #[.agg #[.int .i64 ((j % m : Nat) : Int), .int .i64 ((j / m : Nat) : Int)]] ++ k1) w' fun e w'' => e = .returned (.bool true) ∧ Below w'.heap.size w' w'') := Lib.hid (fun w' hw' => by have h9 := HC.out j hlt w' hw'; rw [hp] at h9; exact h9)
        clear hp
        generalize hzs : pick j p = zs at *; clear hzs
        have HCS : Hid (cellsT m (zs ++ [j]) = cellsT m zs ++ [(((j % m : Nat) : Int), ((j / m : Nat) : Int))]) := Lib.hid (cellsT_snoc m zs j)
        have hcl : (cellsT m zs).length ≤ 256 := by rw [cellsT_len]; exact hzl
        go_wp2_with (first | (refine wpList_callV fc r1 k1 rfl gC [.agg #[.int .i64 ((j % m : Nat) : Int), .int .i64 ((j / m : Nat) : Int)]] rfl _ (HCJ.out _ HB.out) ?_; rintro e v5 ⟨rfl, q⟩; refine ⟨_, rfl, ?_⟩; replace Z := Z.later q; replace C := C.later q; replace HO := Lib.hid (outsT_later HO.out q); replace HB := Lib.hid (HB.out.trans (q.mono HB.out.size)); clear q Cc Cf; obtain ⟨Cc, Cf⟩ := C.open) | (at_builtin; refine wpList_append_own _ rfl _ _ 128 rfl u1.heap.size 134 ti (.agg #[.int .i64 0, .int .i64 0]) 2 16 Try.underlying128 HI.out HZ0.out HZ1.out HZ2.out rfl (by decide) _ _ _ rfl (HO.out.1.alloc _) ⟨_, 0, none⟩ 1 1 [.int .i64 ((j % m : Nat) : Int), .int .i64 ((j / m : Nat) : Int)] rfl rfl (oneT_news _ _ _ _) (oneT_cells _ _) (by unfold maxLen; omega) (by omega) (by have := HO.out.2.size; simp; omega) ?_; intro v' w9 hown' hgrow _))
        have H3 := Lib.hid (outsT_next (z := (((j % m : Nat) : Int), ((j / m : Nat) : Int))) HO.out hown' hgrow)
        have Z2 : Blk w9 w.heap.size #[.int .i64 (m : Int), .int .i64 (k : Int), .bool wb] 80 := (Z.alloc (.cells #[.int .i64 ((j % m : Nat) : Int), .int .i64 ((j / m : Nat) : Int)] 134)).grown hgrow ?zg
        rotate_left
        case zg => intro h9; have h8 := HO.out.1.lt w.heap.size (by first | exact h9.symm | (simp at h9 ⊢; exact h9.symm)); omega
        go_roundw
        case rel => exact ⟨j + 1, by omega, by go_num, by rw [HPK.out, HCS.out]; exact H3.out, Z2⟩
        case measure => simp [intOf]; omega
    · skip
      obtain rfl : j = n := by omega
      obtain ⟨a, c, e, OW, B⟩ := outsT_end HO.out
      rw [cellsT_len] at e
      have HE := Lib.hid e; clear e
      go_wp2
      go_ret
      exact ⟨a, c, by rw [← HE.out]; rfl, OW.lower (by omega), HB0.out.trans (B.mono HB0.out.size)⟩

end Go.Proofs.Ytedfbaeajofmnaa

end

section

namespace Go.Proofs.Ytedfbaeajofmnaa
open Go Ieee Go.RowKit
set_option linter.unusedVariables false

set_option maxHeartbeats 16000000 in
set_option maxRecDepth 100000 in
theorem implHalfL (m k n : Nat) (wb : Bool) (cs : Array Value) (e x y : Nat → Nat) (E X Y : Nat → Option Nat) (js : List Nat) (ac : Option Addr) (cc : Nat) (w : World) (hC : RowV w ac (pvals (cellsT m js))) (hjs : ∀ j ∈ js, j < n) (hnd : js.Nodup) (hjl : js.length ≤ 256) (hG : GF cs m k e x y) (aE : Ag n e E) (aX : Ag n x X) (aY : Ag n y Y) (h1 : 3 ≤ m) (h2 : m ≤ 16) (h3 : 3 ≤ k) (h4 : k ≤ 16) (hn : Hid (n = m * k)) :
    Calls Try.prog 132 #[.agg cs, .agg #[.int .i64 (m : Int), .int .i64 (k : Int), .bool wb], .slice ac js.length cc] w fun r w' => ∃ cs' x' y', r = .returned (.agg cs') ∧ GF cs' m k e x' y' ∧ Ag n x' (mixd (fun i => decide (i ∈ js)) (halfX wb m k E X) X) ∧ Ag n y' (mixd (fun i => decide (i ∈ js)) (halfY wb m k E Y) Y) ∧ Below w.heap.size w w' := by
  have hn1 : n ≤ 256 := by rw [hn.out]; exact Nat.le_trans (Nat.mul_le_mul h2 h4) (by decide)
  have HJL : Hid (js.length ≤ 256) := Lib.hid hjl
  have GS := Lib.hid hG; clear hG
  have AE := Lib.hid aE; have AX := Lib.hid (agd_zero (js := js) (A := halfX wb m k E X) aX); have AY := Lib.hid (agd_zero (js := js) (A := halfY wb m k E Y) aY); clear aE aX aY
  have G := ((Blk.new w cs 125).alloc (.cells #[.int .i64 (m : Int), .int .i64 (k : Int), .bool wb] 80)).alloc (.cells zgrid 125)
  have Z := (Blk.new1 w (.cells cs 125) #[.int .i64 (m : Int), .int .i64 (k : Int), .bool wb] 80).alloc (.cells zgrid 125)
  have D := Blk.new2 w (.cells cs 125) (.cells #[.int .i64 (m : Int), .int .i64 (k : Int), .bool wb] 80) zgrid 125
  have HB : Hid (Below w.heap.size w (((w.alloc (.cells cs 125)).alloc (.cells #[.int .i64 (m : Int), .int .i64 (k : Int), .bool wb] 80)).alloc (.cells zgrid 125))) := Lib.hid ((((Below.refl w.heap.size w).alloc (by simp <;> omega) _).alloc (by simp <;> omega) _).alloc (by simp <;> omega) _)
  go_enter Try.func132, Try.ntmps132
  go_wp2_with (first | (refine wpList_alloc_big rfl _ rfl zgrid grid_zero ?_; (try simp only [World.size_alloc])) | fail)
  generalize (((w.alloc (.cells cs 125)).alloc (.cells #[.int .i64 (m : Int), .int .i64 (k : Int), .bool wb] 80)).alloc (.cells zgrid 125)) = u1 at *
  go_loopw [11] (fun iv wr => ∃ (t : Nat) (ca : Array Value) (xa ya : Nat → Nat), t ≤ js.length ∧ iv = .int .i64 t ∧ GF ca m k e xa ya ∧ Ag n xa (mixd (memD js t) (halfX wb m k E X) X) ∧ Ag n ya (mixd (memD js t) (halfY wb m k E Y) Y) ∧ Blk wr w.heap.size ca 125 ∧ Blk wr (w.heap.size + 1) #[.int .i64 (m : Int), .int .i64 (k : Int), .bool wb] 80 ∧ Blk wr (w.heap.size + 1 + 1) zgrid 125 ∧ Below w.heap.size w wr) (fun iv _ => js.length - (intOf iv).toNat)
  case atStart => exact ⟨0, cs, x, y, Nat.zero_le _, rfl, GS.out, AX.out, AY.out, G, Z, D, HB.out⟩
  clear GS AX AY G Z D HB
  obtain ⟨t, ca, xa, ya, hj, rfl, gs, ax, ay, G, Z, D, hb⟩ := hrel
  have GS := Lib.hid gs; have AX := Lib.hid ax; have AY := Lib.hid ay; have HB := Lib.hid hb; clear gs ax ay hb
  generalize wr = v1 at *
  by_cases htt : t < js.length
  · skip
    obtain ⟨j, hjt⟩ : ∃ j, j = js[t] := ⟨_, rfl⟩
    have hlt : j < n := by rw [hjt]; exact hjs _ (List.getElem_mem _)
    have hti : (t : Int) < (js.length : Int) := by omega
    have hjl := HJL.out
    obtain ⟨bb, ob, hac, ce0, ce1⟩ := cell_row (hC.later HB.out) htt
    subst hac
    rw [← hjt] at ce0 ce1
    have HJT : Hid (js[t] = j) := Lib.hid hjt.symm; clear hjt
    have him : j < m * k := by rw [← hn.out]; exact hlt
    have h0 : 0 < m := by omega
    have h0k : 0 < k := by omega
    have HDX : Hid (halfX wb m k E X j = if belowB wb (k : Int) ((j / m : Nat) : Int) then X j else fop .sub .f32 (X j) (fop .mul .f32 half32 (fop .sub .f32 (E (dnI m k j)) (E j)))) := Lib.hid rfl
    have HDY : Hid (halfY wb m k E Y j = if besideB wb (m : Int) ((j % m : Nat) : Int) then Y j else fop .add .f32 (Y j) (fop .mul .f32 half32 (fop .sub .f32 (E (rtI m j)) (E j)))) := Lib.hid rfl
    obtain ⟨tp, tq, tpq⟩ := at_lt him h0
    have hdn := dn_lt (i := j) h0 h0k; have hrt := rt_lt h0 him
    rw [← hn.out] at hdn hrt
    have HUD : Hid (dnI m k j = j % m + m * ((j / m + 1) % k)) := Lib.hid rfl
    have HUR : Hid (rtI m j = (j % m + 1) % m + m * (j / m)) := Lib.hid rfl
    obtain ⟨p, hp⟩ : ∃ p, p = j % m := ⟨_, rfl⟩
    obtain ⟨q, hq⟩ : ∃ q, q = j / m := ⟨_, rfl⟩
    rw [← hp, ← hq] at tpq HUD HUR
    rw [← hp] at ce0; rw [← hq] at ce1
    rw [← hp] at tp HDY
    rw [← hq] at tq HDX
    obtain ⟨q2, hq2⟩ : ∃ q2, q2 = (q + 1) % k := ⟨_, rfl⟩
    obtain ⟨p2, hp2⟩ : ∃ p2, p2 = (p + 1) % m := ⟨_, rfl⟩
    rw [← hq2] at HUD
    rw [← hp2] at HUR
    have tq2 : q2 < k := by rw [hq2]; exact Nat.mod_lt _ h0k
    have tp2 : p2 < m := by rw [hp2]; exact Nat.mod_lt _ h0
    generalize dnI m k j = dn at *
    generalize rtI m j = rt at *
    have HP := Lib.hid hp; have HQ := Lib.hid hq; have HQ2 := Lib.hid hq2; have HP2 := Lib.hid hp2; have HPQ := Lib.hid tpq
    clear hp hq hq2 hp2 tpq him
    have p16 : p < 16 := by omega
    have q16 : q < 16 := by omega
    have p216 : p2 < 16 := by omega
    have q216 : q2 < 16 := by omega
    have hXh := agd_here AX.out hnd htt HJT.out hlt; have hYh := agd_here AY.out hnd htt HJT.out hlt; have hEj := AE.out j hlt; have hEd := AE.out dn hdn; have hEr := AE.out rt hrt
    have HXH := Lib.hid hXh.1; have HYH := Lib.hid hYh.1; have HEJ := Lib.hid hEj.1; have HED := Lib.hid hEd.1; have HER := Lib.hid hEr.1
    clear hXh hYh hEj hEd hEr hdn hrt
    have glt := G.lt; have zlt := Z.lt; have dlt := D.lt
    have C := Blk.new v1 #[.int .i64 (p : Int), .int .i64 (q : Int)] 134
    have b2 := below_new v1 (.cells #[.int .i64 (p : Int), .int .i64 (q : Int)] 134)
    replace G := G.later b2; replace Z := Z.later b2; replace D := D.later b2
    replace HB := Lib.hid (HB.out.trans (b2.mono HB.out.size)); clear b2
    obtain ⟨Zc, Zf⟩ := Z.open; obtain ⟨Cc, Cf⟩ := C.open
    go_wp2_with fail
    generalize (v1.alloc (.cells #[.int .i64 (p : Int), .int .i64 (q : Int)] 134)) = v2 at *
    have hcb : v1.heap.size ≠ w.heap.size := by omega
    refine (implBelow (m : Int) (k : Int) (p : Int) (q : Int) wb _ (by omega) (by omega)).mono ?_
    rintro r v3 ⟨rfl, b3⟩
    clear Zc Zf Cc Cf
    replace G := G.later b3; replace Z := Z.later b3; replace D := D.later b3; replace C := C.later b3
    replace HB := Lib.hid (HB.out.trans (b3.mono HB.out.size)); clear b3
    rcases hbl : belowB wb (k : Int) (q : Int) with _ | _
    · skip
      have HXV : Hid (halfX wb m k E X j = fop .sub .f32 (X j) (fop .mul .f32 half32 (fop .sub .f32 (E dn) (E j)))) := Lib.hid (by rw [HDX.out, hbl]; rfl)
      clear hbl
      obtain ⟨f0, f1, f2⟩ := gf_cells G GS.out tp tq HPQ.out
      obtain ⟨f3, _, _⟩ := gf_cells G GS.out tp tq2 HUD.out.symm
      have F0 := Lib.hid f0; have F1 := Lib.hid f1; have F3 := Lib.hid f3; clear f0 f1 f2 f3
      go_wp2_with fail
      refine wp_region_rel_tail (Grows v3) (SpStep v3 (fun _ v => v = .agg #[.int .i64 (p : Int), .int .i64 (q2 : Int)])) 16 (by kernel_rfl) (by kernel_rfl) (Grows.drew _) ?_
      simp only [List.take_succ_cons, List.take_zero, List.drop_succ_cons, List.drop_zero]
      (refine wpRel_plain rfl rfl ?_; intro K hK; go_big_quiet_op; (first | go_big_quiet_on | (refine ⟨_, fun _ _ => rfl, ?_⟩; go_big_quiet_on)))
      (refine wpRel_load rfl _ rfl (_) (fun w' hw' => run_loadVar_row w' _ _ _ _ _ _ (C.later hw') Try.underlying134 rfl (by kernel_rfl)) ?_; simp only [Act.put, List.setIfInBounds_toArray, List.set_cons_zero, List.set_cons_succ])
      (refine wpRel_plain rfl rfl ?_; intro K hK; go_big_quiet_op; (first | go_big_quiet_on | (refine ⟨_, fun _ _ => rfl, ?_⟩; go_big_quiet_on)))
      (refine wpRel_load rfl _ rfl (_) (fun w' hw' => run_loadVar_row w' _ _ _ _ _ _ (C.later hw') Try.underlying134 rfl (by kernel_rfl)) ?_; simp only [Act.put, List.setIfInBounds_toArray, List.set_cons_zero, List.set_cons_succ])
      (refine wpRel_callC rfl 133 _ rfl Try.func133 (by kernel_rfl) (by kernel_rfl) [.pointer (some ⟨w.heap.size, 256, none⟩), .agg #[.int .i64 (p : Int), .int .i64 (q : Int)]] rfl (fun w' hw' => spAt hw' p16 q16 F1.out) ?_; intro v hv; obtain rfl := spAt_out hv F1.out; clear hv; simp only [Act.put, List.setIfInBounds_toArray, List.set_cons_zero, List.set_cons_succ])
      (refine wpRel_plain rfl rfl ?_; intro K hK; go_big_quiet_op; (first | go_big_quiet_on | (refine ⟨_, fun _ _ => rfl, ?_⟩; go_big_quiet_on)))
      (refine wpRel_load rfl _ rfl (_) (fun w' hw' => run_loadVar_row w' _ _ _ _ _ _ (Z.later hw') Try.underlying80 rfl (by kernel_rfl)) ?_; simp only [Act.put, List.setIfInBounds_toArray, List.set_cons_zero, List.set_cons_succ])
      (refine wpRel_load rfl _ rfl (_) (fun w' hw' => run_loadVar_row w' _ _ _ _ _ _ (C.later hw') Try.underlying134 rfl (by kernel_rfl)) ?_; simp only [Act.put, List.setIfInBounds_toArray, List.set_cons_zero, List.set_cons_succ])
      (refine wpRel_callC rfl 152 _ rfl Try.func152 (by kernel_rfl) (by kernel_rfl) [.agg #[.int .i64 (m : Int), .int .i64 (k : Int), .bool wb], .agg #[.int .i64 (p : Int), .int .i64 (q : Int)]] rfl (fun w' hw' => (implbelowV m k p q q2 wb _ h1 h2 h3 h4 tp tq HQ2).mono (by rintro e w'' ⟨rfl, q9⟩; exact ⟨_, rfl, (spStep_other (by decide) (by decide)).2 rfl, Grows.next hw' q9⟩)) ?_; intro v hv; obtain rfl := (spStep_other (by decide) (by decide)).1 hv; clear hv; simp only [Act.put, List.setIfInBounds_toArray, List.set_cons_zero, List.set_cons_succ])
      (refine wpRel_callC rfl 133 _ rfl Try.func133 (by kernel_rfl) (by kernel_rfl) [.pointer (some ⟨w.heap.size, 0, none⟩), .agg #[.int .i64 (p : Int), .int .i64 (q2 : Int)]] rfl (fun w' hw' => spAt hw' p16 q216 F3.out) ?_; intro v hv; obtain rfl := spAt_out hv F3.out; clear hv; simp only [Act.put, List.setIfInBounds_toArray, List.set_cons_zero, List.set_cons_succ])
      (refine wpRel_plain rfl rfl ?_; intro K hK; go_big_quiet_op; (first | go_big_quiet_on | (refine ⟨_, fun _ _ => rfl, ?_⟩; go_big_quiet_on)))
      (refine wpRel_load rfl _ rfl (_) (fun w' hw' => run_loadVar_row w' _ _ _ _ _ _ (C.later hw') Try.underlying134 rfl (by kernel_rfl)) ?_; simp only [Act.put, List.setIfInBounds_toArray, List.set_cons_zero, List.set_cons_succ])
      (refine wpRel_callC rfl 133 _ rfl Try.func133 (by kernel_rfl) (by kernel_rfl) [.pointer (some ⟨w.heap.size, 0, none⟩), .agg #[.int .i64 (p : Int), .int .i64 (q : Int)]] rfl (fun w' hw' => spAt hw' p16 q16 F0.out) ?_; intro v hv; obtain rfl := spAt_out hv F0.out; clear hv; simp only [Act.put, List.setIfInBounds_toArray, List.set_cons_zero, List.set_cons_succ])
      (refine wpRel_arithC rfl rfl (fun _ n h => Grows.drewN n h) .f32 _ _ rfl rfl ?_; intro y1 hc_y1 hb_y1; have H_y1 := Lib.hid hc_y1; clear hc_y1; replace hb_y1 : y1 < 2 ^ 32 := hb_y1; simp only [Act.put, List.setIfInBounds_toArray, List.set_cons_zero, List.set_cons_succ])
      (refine wpRel_callC rfl 137 _ rfl Try.func137 (by kernel_rfl) (by kernel_rfl) [.float .f32 (1056964608), .float .f32 (y1)] rfl (fun w' hw' => spMul hw') ?_; intro v hv; obtain ⟨y2, rfl, hc_y2, hb_y2⟩ := spMul_out hv; have H_y2 := Lib.hid hc_y2; clear hv hc_y2; simp only [Act.put, List.setIfInBounds_toArray, List.set_cons_zero, List.set_cons_succ])
      (refine wpRel_arithC rfl rfl (fun _ n h => Grows.drewN n h) .f32 _ _ rfl rfl ?_; intro y3 hc_y3 hb_y3; have H_y3 := Lib.hid hc_y3; clear hc_y3; replace hb_y3 : y3 < 2 ^ 32 := hb_y3; simp only [Act.put, List.setIfInBounds_toArray, List.set_cons_zero, List.set_cons_succ])
      refine wpRel_nil ?_
      intro v4 b4
      replace b4 : Below v3.heap.size v3 v4 := b4
      replace G := G.later b4; replace Z := Z.later b4; replace D := D.later b4; replace C := C.later b4
      replace HB := Lib.hid (HB.out.trans (b4.mono HB.out.size)); clear b4
      have HU : Hid (canon .f32 y3 = halfX wb m k E X j) := Lib.hid (by rw [HXV.out, H_y3.out, H_y2.out, H_y1.out, HXH.out, HED.out, HEJ.out])
      have hiy : 256 + (16 * q + p) < ca.size := by rw [GS.out.1.1]; omega
      have sz4 := HB.out.size
      go_wp2_with fail
      refine (implPut w.heap.size 256 p q y3 _ _ _ p16 q16 G hiy).mono ?_
      rintro r v5 ⟨⟨ra, rfl⟩, G5, g5⟩
      replace Z := Z.grown g5 (by simp); replace D := D.grown g5 (by simp; omega); replace C := C.grown g5 (by simp; omega)
      replace HB := Lib.hid (HB.out.grown g5 sz4 (fun i hi => by cases hi; exact Nat.le_refl _))
      replace GS := Lib.hid (gf_setX (v := y3) GS.out h2 h4 tp tq HPQ.out)
      replace AX := Lib.hid (agd_put AX.out htt HJT.out HU.out hb_y3)
      clear G g5 F0 F1 F3 HXH hiy; have G := G5; clear G5
      generalize up1 xa j y3 = xb at *
      generalize ca.setIfInBounds (256 + (16 * q + p)) (.float .f32 y3) = cb at *
      obtain ⟨Zc, Zf⟩ := Z.open; obtain ⟨Cc, Cf⟩ := C.open
      go_wp2_with fail
      refine (implBeside (m : Int) (k : Int) (p : Int) (q : Int) wb _ (by omega) (by omega)).mono ?_
      rintro r v6 ⟨rfl, b6⟩
      clear Zc Zf Cc Cf
      replace G := G.later b6; replace Z := Z.later b6; replace D := D.later b6; replace C := C.later b6
      replace HB := Lib.hid (HB.out.trans (b6.mono HB.out.size)); clear b6
      rcases hbs : besideB wb (m : Int) (p : Int) with _ | _
      · skip
        have HYV : Hid (halfY wb m k E Y j = fop .add .f32 (Y j) (fop .mul .f32 half32 (fop .sub .f32 (E rt) (E j)))) := Lib.hid (by rw [HDY.out, hbs]; rfl)
        clear hbs
        obtain ⟨f0, f1, f2⟩ := gf_cells G GS.out tp tq HPQ.out
        obtain ⟨f3, _, _⟩ := gf_cells G GS.out tp2 tq HUR.out.symm
        have F0 := Lib.hid f0; have F2 := Lib.hid f2; have F3 := Lib.hid f3; clear f0 f1 f2 f3
        go_wp2_with fail
        refine wp_region_rel_tail (Grows v6) (SpStep v6 (fun _ v => v = .agg #[.int .i64 (p2 : Int), .int .i64 (q : Int)])) 16 (by kernel_rfl) (by kernel_rfl) (Grows.drew _) ?_
        simp only [List.take_succ_cons, List.take_zero, List.drop_succ_cons, List.drop_zero]
        (refine wpRel_plain rfl rfl ?_; intro K hK; go_big_quiet_op; (first | go_big_quiet_on | (refine ⟨_, fun _ _ => rfl, ?_⟩; go_big_quiet_on)))
        (refine wpRel_load rfl _ rfl (_) (fun w' hw' => run_loadVar_row w' _ _ _ _ _ _ (C.later hw') Try.underlying134 rfl (by kernel_rfl)) ?_; simp only [Act.put, List.setIfInBounds_toArray, List.set_cons_zero, List.set_cons_succ])
        (refine wpRel_plain rfl rfl ?_; intro K hK; go_big_quiet_op; (first | go_big_quiet_on | (refine ⟨_, fun _ _ => rfl, ?_⟩; go_big_quiet_on)))
        (refine wpRel_load rfl _ rfl (_) (fun w' hw' => run_loadVar_row w' _ _ _ _ _ _ (C.later hw') Try.underlying134 rfl (by kernel_rfl)) ?_; simp only [Act.put, List.setIfInBounds_toArray, List.set_cons_zero, List.set_cons_succ])
        (refine wpRel_callC rfl 133 _ rfl Try.func133 (by kernel_rfl) (by kernel_rfl) [.pointer (some ⟨w.heap.size, 512, none⟩), .agg #[.int .i64 (p : Int), .int .i64 (q : Int)]] rfl (fun w' hw' => spAt hw' p16 q16 F2.out) ?_; intro v hv; obtain rfl := spAt_out hv F2.out; clear hv; simp only [Act.put, List.setIfInBounds_toArray, List.set_cons_zero, List.set_cons_succ])
        (refine wpRel_plain rfl rfl ?_; intro K hK; go_big_quiet_op; (first | go_big_quiet_on | (refine ⟨_, fun _ _ => rfl, ?_⟩; go_big_quiet_on)))
        (refine wpRel_load rfl _ rfl (_) (fun w' hw' => run_loadVar_row w' _ _ _ _ _ _ (Z.later hw') Try.underlying80 rfl (by kernel_rfl)) ?_; simp only [Act.put, List.setIfInBounds_toArray, List.set_cons_zero, List.set_cons_succ])
        (refine wpRel_load rfl _ rfl (_) (fun w' hw' => run_loadVar_row w' _ _ _ _ _ _ (C.later hw') Try.underlying134 rfl (by kernel_rfl)) ?_; simp only [Act.put, List.setIfInBounds_toArray, List.set_cons_zero, List.set_cons_succ])
        (refine wpRel_callC rfl 153 _ rfl Try.func153 (by kernel_rfl) (by kernel_rfl) [.agg #[.int .i64 (m : Int), .int .i64 (k : Int), .bool wb], .agg #[.int .i64 (p : Int), .int .i64 (q : Int)]] rfl (fun w' hw' => (implrightV m k p q p2 wb _ h1 h2 h3 h4 tp tq HP2).mono (by rintro e w'' ⟨rfl, q9⟩; exact ⟨_, rfl, (spStep_other (by decide) (by decide)).2 rfl, Grows.next hw' q9⟩)) ?_; intro v hv; obtain rfl := (spStep_other (by decide) (by decide)).1 hv; clear hv; simp only [Act.put, List.setIfInBounds_toArray, List.set_cons_zero, List.set_cons_succ])
        (refine wpRel_callC rfl 133 _ rfl Try.func133 (by kernel_rfl) (by kernel_rfl) [.pointer (some ⟨w.heap.size, 0, none⟩), .agg #[.int .i64 (p2 : Int), .int .i64 (q : Int)]] rfl (fun w' hw' => spAt hw' p216 q16 F3.out) ?_; intro v hv; obtain rfl := spAt_out hv F3.out; clear hv; simp only [Act.put, List.setIfInBounds_toArray, List.set_cons_zero, List.set_cons_succ])
        (refine wpRel_plain rfl rfl ?_; intro K hK; go_big_quiet_op; (first | go_big_quiet_on | (refine ⟨_, fun _ _ => rfl, ?_⟩; go_big_quiet_on)))
        (refine wpRel_load rfl _ rfl (_) (fun w' hw' => run_loadVar_row w' _ _ _ _ _ _ (C.later hw') Try.underlying134 rfl (by kernel_rfl)) ?_; simp only [Act.put, List.setIfInBounds_toArray, List.set_cons_zero, List.set_cons_succ])
        (refine wpRel_callC rfl 133 _ rfl Try.func133 (by kernel_rfl) (by kernel_rfl) [.pointer (some ⟨w.heap.size, 0, none⟩), .agg #[.int .i64 (p : Int), .int .i64 (q : Int)]] rfl (fun w' hw' => spAt hw' p16 q16 F0.out) ?_; intro v hv; obtain rfl := spAt_out hv F0.out; clear hv; simp only [Act.put, List.setIfInBounds_toArray, List.set_cons_zero, List.set_cons_succ])
        (refine wpRel_arithC rfl rfl (fun _ n h => Grows.drewN n h) .f32 _ _ rfl rfl ?_; intro z1 hc_z1 hb_z1; have H_z1 := Lib.hid hc_z1; clear hc_z1; replace hb_z1 : z1 < 2 ^ 32 := hb_z1; simp only [Act.put, List.setIfInBounds_toArray, List.set_cons_zero, List.set_cons_succ])
        (refine wpRel_callC rfl 137 _ rfl Try.func137 (by kernel_rfl) (by kernel_rfl) [.float .f32 (1056964608), .float .f32 (z1)] rfl (fun w' hw' => spMul hw') ?_; intro v hv; obtain ⟨z2, rfl, hc_z2, hb_z2⟩ := spMul_out hv; have H_z2 := Lib.hid hc_z2; clear hv hc_z2; simp only [Act.put, List.setIfInBounds_toArray, List.set_cons_zero, List.set_cons_succ])
        (refine wpRel_arithC rfl rfl (fun _ n h => Grows.drewN n h) .f32 _ _ rfl rfl ?_; intro z3 hc_z3 hb_z3; have H_z3 := Lib.hid hc_z3; clear hc_z3; replace hb_z3 : z3 < 2 ^ 32 := hb_z3; simp only [Act.put, List.setIfInBounds_toArray, List.set_cons_zero, List.set_cons_succ])
        refine wpRel_nil ?_
        intro v7 b7
        replace b7 : Below v6.heap.size v6 v7 := b7
        replace G := G.later b7; replace Z := Z.later b7; replace D := D.later b7
        replace HB := Lib.hid (HB.out.trans (b7.mono HB.out.size)); clear b7
        have HV : Hid (canon .f32 z3 = halfY wb m k E Y j) := Lib.hid (by rw [HYV.out, H_z3.out, H_z2.out, H_z1.out, HYH.out, HER.out, HEJ.out])
        have hix : 512 + (16 * q + p) < (cb).size := by rw [GS.out.1.1]; omega
        have sz7 := HB.out.size
        go_wp2_with fail
        refine (implPut w.heap.size 512 p q z3 _ _ _ p16 q16 G hix).mono ?_
        rintro r v8 ⟨⟨ra, rfl⟩, G8, g8⟩
        replace Z := Z.grown g8 (by simp); replace D := D.grown g8 (by simp; omega)
        replace HB := Lib.hid (HB.out.grown g8 sz7 (fun i hi => by cases hi; exact Nat.le_refl _))
        go_wp2
        go_roundw
        case rel => exact ⟨t + 1, _, _, _, by omega, by go_num, gf_setY GS.out h2 h4 tp tq HPQ.out, AX.out, agd_put AY.out htt HJT.out HV.out hb_z3, G8, Z, D, HB.out⟩
        case measure => simp [intOf]; omega
      · skip
        have HYV : Hid (halfY wb m k E Y j = Y j) := Lib.hid (by rw [HDY.out, hbs]; rfl)
        clear hbs
        go_wp2
        go_roundw
        case rel => exact ⟨t + 1, _, _, _, by omega, by go_num, GS.out, AX.out, agd_same AY.out htt HJT.out HYV.out, G, Z, D, HB.out⟩
        case measure => simp [intOf]; omega
    · skip
      have HXV : Hid (halfX wb m k E X j = X j) := Lib.hid (by rw [HDX.out, hbl]; rfl)
      clear hbl
      replace AX := Lib.hid (agd_same AX.out htt HJT.out HXV.out)
      obtain ⟨Zc, Zf⟩ := Z.open; obtain ⟨Cc, Cf⟩ := C.open
      go_wp2_with fail
      refine (implBeside (m : Int) (k : Int) (p : Int) (q : Int) wb _ (by omega) (by omega)).mono ?_
      rintro r v6 ⟨rfl, b6⟩
      clear Zc Zf Cc Cf
      replace G := G.later b6; replace Z := Z.later b6; replace D := D.later b6; replace C := C.later b6
      replace HB := Lib.hid (HB.out.trans (b6.mono HB.out.size)); clear b6
      rcases hbs : besideB wb (m : Int) (p : Int) with _ | _
      · skip
        have HYV : Hid (halfY wb m k E Y j = fop .add .f32 (Y j) (fop .mul .f32 half32 (fop .sub .f32 (E rt) (E j)))) := Lib.hid (by rw [HDY.out, hbs]; rfl)
        clear hbs
        obtain ⟨f0, f1, f2⟩ := gf_cells G GS.out tp tq HPQ.out
        obtain ⟨f3, _, _⟩ := gf_cells G GS.out tp2 tq HUR.out.symm
        have F0 := Lib.hid f0; have F2 := Lib.hid f2; have F3 := Lib.hid f3; clear f0 f1 f2 f3
        go_wp2_with fail
        refine wp_region_rel_tail (Grows v6) (SpStep v6 (fun _ v => v = .agg #[.int .i64 (p2 : Int), .int .i64 (q : Int)])) 16 (by kernel_rfl) (by kernel_rfl) (Grows.drew _) ?_
        simp only [List.take_succ_cons, List.take_zero, List.drop_succ_cons, List.drop_zero]
        (refine wpRel_plain rfl rfl ?_; intro K hK; go_big_quiet_op; (first | go_big_quiet_on | (refine ⟨_, fun _ _ => rfl, ?_⟩; go_big_quiet_on)))
        (refine wpRel_load rfl _ rfl (_) (fun w' hw' => run_loadVar_row w' _ _ _ _ _ _ (C.later hw') Try.underlying134 rfl (by kernel_rfl)) ?_; simp only [Act.put, List.setIfInBounds_toArray, List.set_cons_zero, List.set_cons_succ])
        (refine wpRel_plain rfl rfl ?_; intro K hK; go_big_quiet_op; (first | go_big_quiet_on | (refine ⟨_, fun _ _ => rfl, ?_⟩; go_big_quiet_on)))
        (refine wpRel_load rfl _ rfl (_) (fun w' hw' => run_loadVar_row w' _ _ _ _ _ _ (C.later hw') Try.underlying134 rfl (by kernel_rfl)) ?_; simp only [Act.put, List.setIfInBounds_toArray, List.set_cons_zero, List.set_cons_succ])
        (refine wpRel_callC rfl 133 _ rfl Try.func133 (by kernel_rfl) (by kernel_rfl) [.pointer (some ⟨w.heap.size, 512, none⟩), .agg #[.int .i64 (p : Int), .int .i64 (q : Int)]] rfl (fun w' hw' => spAt hw' p16 q16 F2.out) ?_; intro v hv; obtain rfl := spAt_out hv F2.out; clear hv; simp only [Act.put, List.setIfInBounds_toArray, List.set_cons_zero, List.set_cons_succ])
        (refine wpRel_plain rfl rfl ?_; intro K hK; go_big_quiet_op; (first | go_big_quiet_on | (refine ⟨_, fun _ _ => rfl, ?_⟩; go_big_quiet_on)))
        (refine wpRel_load rfl _ rfl (_) (fun w' hw' => run_loadVar_row w' _ _ _ _ _ _ (Z.later hw') Try.underlying80 rfl (by kernel_rfl)) ?_; simp only [Act.put, List.setIfInBounds_toArray, List.set_cons_zero, List.set_cons_succ])
        (refine wpRel_load rfl _ rfl (_) (fun w' hw' => run_loadVar_row w' _ _ _ _ _ _ (C.later hw') Try.underlying134 rfl (by kernel_rfl)) ?_; simp only [Act.put, List.setIfInBounds_toArray, List.set_cons_zero, List.set_cons_succ])
        (refine wpRel_callC rfl 153 _ rfl Try.func153 (by kernel_rfl) (by kernel_rfl) [.agg #[.int .i64 (m : Int), .int .i64 (k : Int), .bool wb], .agg #[.int .i64 (p : Int), .int .i64 (q : Int)]] rfl (fun w' hw' => (implrightV m k p q p2 wb _ h1 h2 h3 h4 tp tq HP2).mono (by rintro e w'' ⟨rfl, q9⟩; exact ⟨_, rfl, (spStep_other (by decide) (by decide)).2 rfl, Grows.next hw' q9⟩)) ?_; intro v hv; obtain rfl := (spStep_other (by decide) (by decide)).1 hv; clear hv; simp only [Act.put, List.setIfInBounds_toArray, List.set_cons_zero, List.set_cons_succ])
        (refine wpRel_callC rfl 133 _ rfl Try.func133 (by kernel_rfl) (by kernel_rfl) [.pointer (some ⟨w.heap.size, 0, none⟩), .agg #[.int .i64 (p2 : Int), .int .i64 (q : Int)]] rfl (fun w' hw' => spAt hw' p216 q16 F3.out) ?_; intro v hv; obtain rfl := spAt_out hv F3.out; clear hv; simp only [Act.put, List.setIfInBounds_toArray, List.set_cons_zero, List.set_cons_succ])
        (refine wpRel_plain rfl rfl ?_; intro K hK; go_big_quiet_op; (first | go_big_quiet_on | (refine ⟨_, fun _ _ => rfl, ?_⟩; go_big_quiet_on)))
        (refine wpRel_load rfl _ rfl (_) (fun w' hw' => run_loadVar_row w' _ _ _ _ _ _ (C.later hw') Try.underlying134 rfl (by kernel_rfl)) ?_; simp only [Act.put, List.setIfInBounds_toArray, List.set_cons_zero, List.set_cons_succ])
        (refine wpRel_callC rfl 133 _ rfl Try.func133 (by kernel_rfl) (by kernel_rfl) [.pointer (some ⟨w.heap.size, 0, none⟩), .agg #[.int .i64 (p : Int), .int .i64 (q : Int)]] rfl (fun w' hw' => spAt hw' p16 q16 F0.out) ?_; intro v hv; obtain rfl := spAt_out hv F0.out; clear hv; simp only [Act.put, List.setIfInBounds_toArray, List.set_cons_zero, List.set_cons_succ])
        (refine wpRel_arithC rfl rfl (fun _ n h => Grows.drewN n h) .f32 _ _ rfl rfl ?_; intro z1 hc_z1 hb_z1; have H_z1 := Lib.hid hc_z1; clear hc_z1; replace hb_z1 : z1 < 2 ^ 32 := hb_z1; simp only [Act.put, List.setIfInBounds_toArray, List.set_cons_zero, List.set_cons_succ])
        (refine wpRel_callC rfl 137 _ rfl Try.func137 (by kernel_rfl) (by kernel_rfl) [.float .f32 (1056964608), .float .f32 (z1)] rfl (fun w' hw' => spMul hw') ?_; intro v hv; obtain ⟨z2, rfl, hc_z2, hb_z2⟩ := spMul_out hv; have H_z2 := Lib.hid hc_z2; clear hv hc_z2; simp only [Act.put, List.setIfInBounds_toArray, List.set_cons_zero, List.set_cons_succ])
        (refine wpRel_arithC rfl rfl (fun _ n h => Grows.drewN n h) .f32 _ _ rfl rfl ?_; intro z3 hc_z3 hb_z3; have H_z3 := Lib.hid hc_z3; clear hc_z3; replace hb_z3 : z3 < 2 ^ 32 := hb_z3; simp only [Act.put, List.setIfInBounds_toArray, List.set_cons_zero, List.set_cons_succ])
        refine wpRel_nil ?_
        intro v7 b7
        replace b7 : Below v6.heap.size v6 v7 := b7
        replace G := G.later b7; replace Z := Z.later b7; replace D := D.later b7
        replace HB := Lib.hid (HB.out.trans (b7.mono HB.out.size)); clear b7
        have HV : Hid (canon .f32 z3 = halfY wb m k E Y j) := Lib.hid (by rw [HYV.out, H_z3.out, H_z2.out, H_z1.out, HYH.out, HER.out, HEJ.out])
        have hix : 512 + (16 * q + p) < (ca).size := by rw [GS.out.1.1]; omega
        have sz7 := HB.out.size
        go_wp2_with fail
        refine (implPut w.heap.size 512 p q z3 _ _ _ p16 q16 G hix).mono ?_
        rintro r v8 ⟨⟨ra, rfl⟩, G8, g8⟩
        replace Z := Z.grown g8 (by simp); replace D := D.grown g8 (by simp; omega)
        replace HB := Lib.hid (HB.out.grown g8 sz7 (fun i hi => by cases hi; exact Nat.le_refl _))
        go_wp2
        go_roundw
        case rel => exact ⟨t + 1, _, _, _, by omega, by go_num, gf_setY GS.out h2 h4 tp tq HPQ.out, AX.out, agd_put AY.out htt HJT.out HV.out hb_z3, G8, Z, D, HB.out⟩
        case measure => simp [intOf]; omega
      · skip
        have HYV : Hid (halfY wb m k E Y j = Y j) := Lib.hid (by rw [HDY.out, hbs]; rfl)
        clear hbs
        go_wp2
        go_roundw
        case rel => exact ⟨t + 1, _, _, _, by omega, by go_num, GS.out, AX.out, agd_same AY.out htt HJT.out HYV.out, G, Z, D, HB.out⟩
        case measure => simp [intOf]; omega
  · skip
    obtain rfl : t = js.length := by omega
    have AXA := Lib.hid (agd_all AX.out); have AYA := Lib.hid (agd_all AY.out); clear AX AY
    have HS2 : Hid ((Try.prog.info? 125).map (·.size) = some ca.size) := Lib.hid (by rw [GS.out.1.1]; exact grid_size)
    have HS3 : Hid (zgrid.size = ca.size) := Lib.hid (by rw [GS.out.1.1]; exact Array.size_replicate)
    go_wp2_with (first
      | (refine wpList_load_row rfl _ _ rfl _ rfl 125 ca (0, 0) _ G Try.underlying125 rfl HS2.out ?_)
      | (refine wpList_store_row rfl _ _ _ rfl _ ca rfl rfl 125 zgrid D HS2.out HS3.out GS.out.1.2 ?_)
      | fail)
    refine bodyPost_ret (v := .agg ca) (results_cell_row rfl _ _ (w.heap.size + 1 + 1) 125 ca (0, 0) _ rfl (D.row _) Try.underlying125 rfl HS2.out) rfl ⟨ca, xa, ya, rfl, GS.out, AXA.out, AYA.out, below_setRow HB.out (by omega) _⟩

end Go.Proofs.Ytedfbaeajofmnaa

end

section

namespace Go.Proofs.Ytedfbaeajofmnaa
open Go Ieee Go.RowKit
set_option linter.unusedVariables false

/-- E behind a step -/
def stE (wb : Bool) (m k : Nat) (S L E X Y : Nat → Option Nat) : Nat → Option Nat := restE wb m k S L E (halfX wb m k E X) (halfY wb m k E Y)

/-- the numbers of a list -/
def nums (xs : List Nat) (i : Nat) : Option Nat := canon .f32 (xs.getD i 0)

set_option maxHeartbeats 16000000 in
set_option maxRecDepth 100000 in
theorem implSteppedIn (m k n : Nat) (wb : Bool) (a b : Option Addr) (ca cb : Nat) (xs ys : List Nat) (cs : Array Value) (e x y : Nat → Nat) (E X Y : Nat → Option Nat) (js ks : List Nat) (ah aw : Option Addr) (ch cw : Nat) (w : World) (hJ : RowV w ah (pvals (cellsT m js))) (hjs : ∀ j ∈ js, j < n) (hjd : js.Nodup) (hjl : js.length ≤ 256) (hK : RowV w aw (pvals (cellsT m ks))) (hks : ∀ j ∈ ks, j < n) (hkd : ks.Nodup) (hkl : ks.length ≤ 256) (ra : RowV w a (fvals xs)) (rb : RowV w b (fvals ys)) (la : xs.length = n) (lb : ys.length = n) (hG : GF cs m k e x y) (aE : Ag n e E) (aX : Ag n x X) (aY : Ag n y Y) (h1 : 3 ≤ m) (h2 : m ≤ 16) (h3 : 3 ≤ k) (h4 : k ≤ 16) (hn : Hid (n = m * k)) :
    Calls Try.prog 92 #[.agg cs, .agg #[.int .i64 (m : Int), .int .i64 (k : Int), .bool wb, .slice a xs.length ca, .slice b ys.length cb], .agg #[.slice ah js.length ch, .slice aw ks.length cw]] w fun r w' => ∃ cs' e' x' y', r = .returned (.agg cs') ∧ GF cs' m k e' x' y' ∧ Ag n e' (mixd (fun i => decide (i ∈ ks)) (restE wb m k (nums xs) (nums ys) E (mixd (fun i => decide (i ∈ js)) (halfX wb m k E X) X) (mixd (fun i => decide (i ∈ js)) (halfY wb m k E Y) Y)) E) ∧ Ag n x' (mixd (fun i => decide (i ∈ js)) (halfX wb m k E X) X) ∧ Ag n y' (mixd (fun i => decide (i ∈ js)) (halfY wb m k E Y) Y) ∧ Below w.heap.size w w' := by
  have hn1 : n ≤ 256 := by rw [hn.out]; exact Nat.le_trans (Nat.mul_le_mul h2 h4) (by decide)
  have HKL : Hid (ks.length ≤ 256) := Lib.hid hkl
  have LA := Lib.hid la; have LB := Lib.hid lb; clear la lb
  have aslc : ∀ w, (isAgg 22).run Try.prog w = .ok false w := fun w => by kernel_rfl
  have af32 : ∀ w, (isAgg 102).run Try.prog w = .ok false w := fun w => by kernel_rfl
  have GS := Lib.hid hG; have AE := Lib.hid aE; have AX := Lib.hid aX; have AY := Lib.hid aY; clear hG aE aX aY
  have G := (((Blk.new w cs 125).alloc (.cells #[.int .i64 (m : Int), .int .i64 (k : Int), .bool wb, .slice a xs.length ca, .slice b ys.length cb] 29)).alloc (.cells #[.slice ah js.length ch, .slice aw ks.length cw] 130)).alloc (.cells zgrid 125)
  have T := ((Blk.new1 w (.cells cs 125) #[.int .i64 (m : Int), .int .i64 (k : Int), .bool wb, .slice a xs.length ca, .slice b ys.length cb] 29).alloc (.cells #[.slice ah js.length ch, .slice aw ks.length cw] 130)).alloc (.cells zgrid 125)
  have K := (Blk.new2 w (.cells cs 125) (.cells #[.int .i64 (m : Int), .int .i64 (k : Int), .bool wb, .slice a xs.length ca, .slice b ys.length cb] 29) #[.slice ah js.length ch, .slice aw ks.length cw] 130).alloc (.cells zgrid 125)
  have D := Blk.new3 w (.cells cs 125) (.cells #[.int .i64 (m : Int), .int .i64 (k : Int), .bool wb, .slice a xs.length ca, .slice b ys.length cb] 29) (.cells #[.slice ah js.length ch, .slice aw ks.length cw] 130) zgrid 125
  have HB : Hid (Below w.heap.size w ((((w.alloc (.cells cs 125)).alloc (.cells #[.int .i64 (m : Int), .int .i64 (k : Int), .bool wb, .slice a xs.length ca, .slice b ys.length cb] 29)).alloc (.cells #[.slice ah js.length ch, .slice aw ks.length cw] 130)).alloc (.cells zgrid 125))) := Lib.hid (((((Below.refl w.heap.size w).alloc (by simp <;> omega) _).alloc (by simp <;> omega) _).alloc (by simp <;> omega) _).alloc (by simp <;> omega) _)
  go_enter Try.func92, Try.ntmps92
  go_wp2_with (first | (refine wpList_alloc_big rfl _ rfl zgrid grid_zero ?_; (try simp only [World.size_alloc])) | fail)
  generalize ((((w.alloc (.cells cs 125)).alloc (.cells #[.int .i64 (m : Int), .int .i64 (k : Int), .bool wb, .slice a xs.length ca, .slice b ys.length cb] 29)).alloc (.cells #[.slice ah js.length ch, .slice aw ks.length cw] 130)).alloc (.cells zgrid 125)) = u1 at *
  obtain ⟨Tc, Tf⟩ := T.open
  go_wp2_with fail
  refine (implShapeOf _ _ _ _ _ _ _ _ _ _).mono ?_
  rintro r u2 ⟨rfl, q⟩
  clear Tc Tf
  replace G := G.later q; replace T := T.later q; replace D := D.later q; replace K := K.later q
  replace HB := Lib.hid (HB.out.trans (q.mono HB.out.size)); clear q
  have Z := Blk.new u2 #[.int .i64 (m : Int), .int .i64 (k : Int), .bool wb] 80
  have q := below_new u2 (.cells #[.int .i64 (m : Int), .int .i64 (k : Int), .bool wb] 80)
  have zlt0 := D.lt
  replace G := G.later q; replace T := T.later q; replace D := D.later q; replace K := K.later q
  replace HB := Lib.hid (HB.out.trans (q.mono HB.out.size)); clear q
  obtain ⟨zb, hzb⟩ : ∃ zb, zb = u2.heap.size := ⟨_, rfl⟩
  have hzg : zb ≠ w.heap.size := by omega
  have hzt : zb ≠ w.heap.size + 1 := by omega
  have hzd : zb ≠ w.heap.size + 1 + 1 + 1 := by omega
  have hzk : zb ≠ w.heap.size + 1 + 1 := by omega
  have hzl : w.heap.size ≤ zb := by omega
  obtain ⟨Zc, Zf⟩ := Z.open
  have HS1 : Hid ((Try.prog.info? 125).map (·.size) = some cs.size) := Lib.hid (by rw [GS.out.1.1]; exact grid_size)
  go_upto_region 2 with (fail)
  generalize (u2.alloc (.cells #[.int .i64 (m : Int), .int .i64 (k : Int), .bool wb] 80)) = u3 at *
  rw [← hzb] at Z Zc Zf ⊢
  clear hzb
  obtain ⟨Kc, Kf⟩ := K.open
  go_wp2_with (first | (refine wpList_load_row rfl _ _ rfl _ rfl 125 cs (0, 0) _ G Try.underlying125 rfl HS1.out ?_) | fail)
  refine (implHalfL m k n wb cs e x y E X Y js ah ch _ (hJ.later HB.out) hjs hjd hjl GS.out AE.out AX.out AY.out h1 h2 h3 h4 hn).mono ?_
  rintro r u4 ⟨c4, x4, y4, rfl, g4, ax4, ay4, q⟩
  clear Zc Zf Kc Kf AX AY
  replace G := G.later q; replace T := T.later q; replace D := D.later q; replace K := K.later q; replace Z := Z.later q
  replace HB := Lib.hid (HB.out.trans (q.mono HB.out.size)); clear q
  have HSC : Hid (cs.size = c4.size) := Lib.hid (by rw [GS.out.1.1, g4.1.1])
  have HSD : Hid ((Try.prog.info? 125).map (·.size) = some c4.size) := Lib.hid (by rw [g4.1.1]; exact grid_size)
  replace GS := Lib.hid g4; have AX := Lib.hid ax4; have AY := Lib.hid ay4; clear g4 ax4 ay4
  go_upto_region 3 with (first | (refine wpList_store_row rfl _ _ _ rfl _ c4 rfl rfl 125 cs G HSD.out HSC.out GS.out.1.2 ?_) | fail)
  replace G := G.row c4
  replace T := T.rowOther (show w.heap.size + 1 ≠ w.heap.size by omega) c4; replace D := D.rowOther (show w.heap.size + 1 + 1 + 1 ≠ w.heap.size by omega) c4; replace K := K.rowOther (show w.heap.size + 1 + 1 ≠ w.heap.size by omega) c4; replace Z := Z.rowOther hzg c4
  replace HB := Lib.hid (below_setRow HB.out (Nat.le_refl _) c4)
  generalize (u4.setRow w.heap.size c4) = u5 at *
  obtain ⟨Kc, Kf⟩ := K.open
  have AX0 := AX; have AY0 := AY
  obtain ⟨HX, hHX⟩ : ∃ HX, HX = mixd (fun i => decide (i ∈ js)) (halfX wb m k E X) X := ⟨_, rfl⟩
  obtain ⟨HY, hHY⟩ : ∃ HY, HY = mixd (fun i => decide (i ∈ js)) (halfY wb m k E Y) Y := ⟨_, rfl⟩
  replace AX : Hid (Ag n x4 HX) := Lib.hid (by rw [hHX]; exact AX0.out)
  replace AY : Hid (Ag n y4 HY) := Lib.hid (by rw [hHY]; exact AY0.out)
  have HHX := Lib.hid hHX; have HHY := Lib.hid hHY; clear hHX hHY
  replace AE := Lib.hid (agd_zero (js := ks) (A := restE wb m k (nums xs) (nums ys) E HX HY) AE.out)
  go_wp2
  go_loopw [22] (fun iv wr => ∃ (t : Nat) (cc : Array Value) (ea : Nat → Nat), t ≤ ks.length ∧ iv = .int .i64 t ∧ GF cc m k ea x4 y4 ∧ Ag n ea (mixd (memD ks t) (restE wb m k (nums xs) (nums ys) E HX HY) E) ∧ Blk wr w.heap.size cc 125 ∧ Blk wr (w.heap.size + 1) #[.int .i64 (m : Int), .int .i64 (k : Int), .bool wb, .slice a xs.length ca, .slice b ys.length cb] 29 ∧ Blk wr (w.heap.size + 1 + 1) #[.slice ah js.length ch, .slice aw ks.length cw] 130 ∧ Blk wr (w.heap.size + 1 + 1 + 1) zgrid 125 ∧ Blk wr zb #[.int .i64 (m : Int), .int .i64 (k : Int), .bool wb] 80 ∧ Below w.heap.size w wr) (fun iv _ => ks.length - (intOf iv).toNat)
  case atStart => exact ⟨0, c4, e, Nat.zero_le _, rfl, GS.out, AE.out, G, T, K, D, Z, HB.out⟩
  clear GS AE G T K D Z HB Kc Kf
  obtain ⟨t, cc, ea, hj, rfl, gs, ae, G, T, K, D, Z, hb⟩ := hrel
  have GS := Lib.hid gs; have AE := Lib.hid ae; have HB := Lib.hid hb; clear gs ae hb
  generalize wr = v1 at *
  by_cases htt : t < ks.length
  · skip
    obtain ⟨j, hjt⟩ : ∃ j, j = ks[t] := ⟨_, rfl⟩
    have hlt : j < n := by rw [hjt]; exact hks _ (List.getElem_mem _)
    have hti : (t : Int) < (ks.length : Int) := by omega
    have hkl := HKL.out
    obtain ⟨bb0, ob0, hac, ce0, ce1⟩ := cell_row (hK.later HB.out) htt
    subst hac
    rw [← hjt] at ce0 ce1
    have HJT : Hid (ks[t] = j) := Lib.hid hjt.symm; clear hjt
    have him : j < m * k := by rw [← hn.out]; exact hlt
    have h0 : 0 < m := by omega
    have h0k : 0 < k := by omega
    have HDE : Hid (restE wb m k (nums xs) (nums ys) E HX HY j = if bordB wb (m : Int) (k : Int) ((j % m : Nat) : Int) ((j / m : Nat) : Int) then E j
      else fop .add .f32 (fop .mul .f32 (E j) (fop .sub .f32 one32 (nums ys j))) (fop .mul .f32 (nums xs j) (fop .sub .f32 (fop .sub .f32 (HY j) (HY (lfI m j))) (fop .sub .f32 (HX j) (HX (upI m k j)))))) := Lib.hid rfl
    obtain ⟨tp, tq, tpq⟩ := at_lt him h0
    have hup := up_lt (i := j) h0 h0k; have hlf := lf_lt h0 him
    rw [← hn.out] at hup hlf
    have HUU : Hid (upI m k j = j % m + m * ((j / m + (k - 1)) % k)) := Lib.hid rfl
    have HUL : Hid (lfI m j = (j % m + (m - 1)) % m + m * (j / m)) := Lib.hid rfl
    obtain ⟨p, hp⟩ : ∃ p, p = j % m := ⟨_, rfl⟩
    obtain ⟨q, hq⟩ : ∃ q, q = j / m := ⟨_, rfl⟩
    rw [← hp, ← hq] at tpq HUU HUL HDE
    rw [← hp] at ce0; rw [← hq] at ce1
    rw [← hp] at tp
    rw [← hq] at tq
    obtain ⟨q2, hq2⟩ : ∃ q2, q2 = (q + (k - 1)) % k := ⟨_, rfl⟩
    obtain ⟨p2, hp2⟩ : ∃ p2, p2 = (p + (m - 1)) % m := ⟨_, rfl⟩
    rw [← hq2] at HUU
    rw [← hp2] at HUL
    have tq2 : q2 < k := by rw [hq2]; exact Nat.mod_lt _ h0k
    have tp2 : p2 < m := by rw [hp2]; exact Nat.mod_lt _ h0
    generalize upI m k j = up at *
    generalize lfI m j = lf at *
    have HP := Lib.hid hp; have HQ := Lib.hid hq; have HQ2 := Lib.hid hq2; have HP2 := Lib.hid hp2; have HPQ := Lib.hid tpq
    clear hp hq hq2 hp2 tpq him
    have p16 : p < 16 := by omega
    have q16 : q < 16 := by omega
    have p216 : p2 < 16 := by omega
    have q216 : q2 < 16 := by omega
    have HEJ := Lib.hid (agd_here AE.out hkd htt HJT.out hlt).1; have HXJ := Lib.hid (AX.out j hlt).1; have HXU := Lib.hid (AX.out up hup).1; have HYJ := Lib.hid (AY.out j hlt).1; have HYL := Lib.hid (AY.out lf hlf).1
    clear hup hlf
    have glt := G.lt; have zlt := Z.lt; have dlt := D.lt; have tlt := T.lt
    have C := Blk.new v1 #[.int .i64 (p : Int), .int .i64 (q : Int)] 134
    have b2 := below_new v1 (.cells #[.int .i64 (p : Int), .int .i64 (q : Int)] 134)
    replace G := G.later b2; replace Z := Z.later b2; replace D := D.later b2; replace K := K.later b2; replace T := T.later b2
    replace HB := Lib.hid (HB.out.trans (b2.mono HB.out.size)); clear b2
    obtain ⟨Zc, Zf⟩ := Z.open; obtain ⟨Cc, Cf⟩ := C.open
    go_wp2_with fail
    generalize (v1.alloc (.cells #[.int .i64 (p : Int), .int .i64 (q : Int)] 134)) = v2 at *
    refine (implBorder (m : Int) (k : Int) (p : Int) (q : Int) wb _ (by omega) (by omega) (by omega) (by omega)).mono ?_
    rintro r v3 ⟨rfl, b3⟩
    clear Zc Zf Cc Cf
    replace G := G.later b3; replace Z := Z.later b3; replace D := D.later b3; replace K := K.later b3; replace C := C.later b3; replace T := T.later b3
    replace HB := Lib.hid (HB.out.trans (b3.mono HB.out.size)); clear b3
    rcases hbl : bordB wb (m : Int) (k : Int) (p : Int) (q : Int) with _ | _
    · skip
      have HEV : Hid (restE wb m k (nums xs) (nums ys) E HX HY j = fop .add .f32 (fop .mul .f32 (E j) (fop .sub .f32 one32 (nums ys j))) (fop .mul .f32 (nums xs j) (fop .sub .f32 (fop .sub .f32 (HY j) (HY lf)) (fop .sub .f32 (HX j) (HX up))))) := Lib.hid (by rw [HDE.out, hbl]; rfl)
      clear hbl
      obtain ⟨f0, f1, f2⟩ := gf_cells G GS.out tp tq HPQ.out
      obtain ⟨_, f3, _⟩ := gf_cells G GS.out tp tq2 HUU.out.symm
      obtain ⟨_, _, f4⟩ := gf_cells G GS.out tp2 tq HUL.out.symm
      have F1 := Lib.hid f1; have F2 := Lib.hid f2; have F3 := Lib.hid f3; have F4 := Lib.hid f4; clear f0 f1 f2 f3 f4
      have jx : j < xs.length := by rw [LA.out]; exact hlt
      have jy : j < ys.length := by rw [LB.out]; exact hlt
      have ra3 := ra.later HB.out; have rb3 := rb.later HB.out
      obtain ⟨ba, oa, rfl, ka⟩ := ra3 j _ (fvals_get jx)
      obtain ⟨bb, ob, rfl, kb⟩ := rb3 j _ (fvals_get jy)
      have HNX : Hid (nums xs j = canon .f32 xs[j]) := Lib.hid (by unfold nums; rw [getD_get jx])
      have HNY : Hid (nums ys j = canon .f32 ys[j]) := Lib.hid (by unfold nums; rw [getD_get jy])
      have jxi : (j : Int) < (xs.length : Int) := by omega
      have jyi : (j : Int) < (ys.length : Int) := by omega
      generalize xs[j] = xj at *
      generalize ys[j] = yj at *
      clear ra3 rb3
      have KA := Lib.hid ka; have KB := Lib.hid kb; clear ka kb
      have HIX : Hid ((p : Int) + (m : Int) * (q : Int) = (j : Int)) := Lib.hid (by have := HPQ.out; rw [← this]; simp)
      have ix0 : 0 ≤ (m : Int) * (q : Int) := Int.mul_nonneg (by omega) (by omega)
      have ix1 : (m : Int) * (q : Int) ≤ 256 := by have := HIX.out; omega
      obtain ⟨Zc, Zf⟩ := Z.open; obtain ⟨Cc, Cf⟩ := C.open
      go_wp2_with fail
      refine (implIndexQ0 (m : Int) (k : Int) (p : Int) (q : Int) wb j _ HIX ix0 ix1 (by omega) (by omega)).mono ?_
      rintro r v33 ⟨rfl, b3⟩
      clear Zc Zf Cc Cf ix0 ix1
      replace KA := Lib.hid (cell_on KA.out b3); replace KB := Lib.hid (cell_on KB.out b3)
      replace G := G.later b3; replace Z := Z.later b3; replace D := D.later b3; replace K := K.later b3; replace C := C.later b3; replace T := T.later b3
      replace HB := Lib.hid (HB.out.trans (b3.mono HB.out.size))
      replace F1 := Lib.hid (cell_on F1.out b3); replace F2 := Lib.hid (cell_on F2.out b3); replace F3 := Lib.hid (cell_on F3.out b3); replace F4 := Lib.hid (cell_on F4.out b3); clear b3
      go_wp2_with fail
      refine wp_region_relC (Grows v33) (SpStep v33 (fun f v => v = if f = 134 then .agg #[.int .i64 (p2 : Int), .int .i64 (q : Int)] else .agg #[.int .i64 (p : Int), .int .i64 (q2 : Int)])) (by kernel_rfl) (by kernel_rfl) (Grows.drew _) ?_
      (refine wpRel_plain rfl rfl ?_; intro K hK; go_big_quiet_op; (first | go_big_quiet_on | (refine ⟨_, fun _ _ => rfl, ?_⟩; go_big_quiet_on)))
      (refine wpRel_load rfl _ rfl (_) (fun w' hw' => run_loadVar_row w' _ _ _ _ _ _ (C.later hw') Try.underlying134 rfl (by kernel_rfl)) ?_; simp only [Act.put, List.setIfInBounds_toArray, List.set_cons_zero, List.set_cons_succ])
      (refine wpRel_callC rfl 133 _ rfl Try.func133 (by kernel_rfl) (by kernel_rfl) [.pointer (some ⟨w.heap.size, 512, none⟩), .agg #[.int .i64 (p : Int), .int .i64 (q : Int)]] rfl (fun w' hw' => spAt hw' p16 q16 F2.out) ?_; intro v hv; obtain rfl := spAt_out hv F2.out; clear hv; simp only [Act.put, List.setIfInBounds_toArray, List.set_cons_zero, List.set_cons_succ])
      (refine wpRel_plain rfl rfl ?_; intro K hK; go_big_quiet_op; (first | go_big_quiet_on | (refine ⟨_, fun _ _ => rfl, ?_⟩; go_big_quiet_on)))
      (refine wpRel_load rfl _ rfl (_) (fun w' hw' => run_loadVar_row w' _ _ _ _ _ _ (Z.later hw') Try.underlying80 rfl (by kernel_rfl)) ?_; simp only [Act.put, List.setIfInBounds_toArray, List.set_cons_zero, List.set_cons_succ])
      (refine wpRel_load rfl _ rfl (_) (fun w' hw' => run_loadVar_row w' _ _ _ _ _ _ (C.later hw') Try.underlying134 rfl (by kernel_rfl)) ?_; simp only [Act.put, List.setIfInBounds_toArray, List.set_cons_zero, List.set_cons_succ])
      (refine wpRel_callC rfl 134 _ rfl Try.func134 (by kernel_rfl) (by kernel_rfl) [.agg #[.int .i64 (m : Int), .int .i64 (k : Int), .bool wb], .agg #[.int .i64 (p : Int), .int .i64 (q : Int)]] rfl (fun w' hw' => (implleftV m k p q p2 wb _ h1 h2 h3 h4 tp tq HP2).mono (by rintro e w'' ⟨rfl, q9⟩; exact ⟨_, rfl, (spStep_other (by decide) (by decide)).2 (Eq.symm (if_pos rfl)), Grows.next hw' q9⟩)) ?_; intro v hv; obtain rfl := ((spStep_other (by decide) (by decide)).1 hv).trans (if_pos rfl); clear hv; simp only [Act.put, List.setIfInBounds_toArray, List.set_cons_zero, List.set_cons_succ])
      (refine wpRel_callC rfl 133 _ rfl Try.func133 (by kernel_rfl) (by kernel_rfl) [.pointer (some ⟨w.heap.size, 512, none⟩), .agg #[.int .i64 (p2 : Int), .int .i64 (q : Int)]] rfl (fun w' hw' => spAt hw' p216 q16 F4.out) ?_; intro v hv; obtain rfl := spAt_out hv F4.out; clear hv; simp only [Act.put, List.setIfInBounds_toArray, List.set_cons_zero, List.set_cons_succ])
      (refine wpRel_arithC rfl rfl (fun _ n h => Grows.drewN n h) .f32 _ _ rfl rfl ?_; intro d1 hc_d1 hb_d1; have H_d1 := Lib.hid hc_d1; clear hc_d1; replace hb_d1 : d1 < 2 ^ 32 := hb_d1; simp only [Act.put, List.setIfInBounds_toArray, List.set_cons_zero, List.set_cons_succ])
      (refine wpRel_plain rfl rfl ?_; intro K hK; go_big_quiet_op; (first | go_big_quiet_on | (refine ⟨_, fun _ _ => rfl, ?_⟩; go_big_quiet_on)))
      (refine wpRel_load rfl _ rfl (_) (fun w' hw' => run_loadVar_row w' _ _ _ _ _ _ (C.later hw') Try.underlying134 rfl (by kernel_rfl)) ?_; simp only [Act.put, List.setIfInBounds_toArray, List.set_cons_zero, List.set_cons_succ])
      (refine wpRel_callC rfl 133 _ rfl Try.func133 (by kernel_rfl) (by kernel_rfl) [.pointer (some ⟨w.heap.size, 256, none⟩), .agg #[.int .i64 (p : Int), .int .i64 (q : Int)]] rfl (fun w' hw' => spAt hw' p16 q16 F1.out) ?_; intro v hv; obtain rfl := spAt_out hv F1.out; clear hv; simp only [Act.put, List.setIfInBounds_toArray, List.set_cons_zero, List.set_cons_succ])
      (refine wpRel_plain rfl rfl ?_; intro K hK; go_big_quiet_op; (first | go_big_quiet_on | (refine ⟨_, fun _ _ => rfl, ?_⟩; go_big_quiet_on)))
      (refine wpRel_load rfl _ rfl (_) (fun w' hw' => run_loadVar_row w' _ _ _ _ _ _ (Z.later hw') Try.underlying80 rfl (by kernel_rfl)) ?_; simp only [Act.put, List.setIfInBounds_toArray, List.set_cons_zero, List.set_cons_succ])
      (refine wpRel_load rfl _ rfl (_) (fun w' hw' => run_loadVar_row w' _ _ _ _ _ _ (C.later hw') Try.underlying134 rfl (by kernel_rfl)) ?_; simp only [Act.put, List.setIfInBounds_toArray, List.set_cons_zero, List.set_cons_succ])
      (refine wpRel_callC rfl 135 _ rfl Try.func135 (by kernel_rfl) (by kernel_rfl) [.agg #[.int .i64 (m : Int), .int .i64 (k : Int), .bool wb], .agg #[.int .i64 (p : Int), .int .i64 (q : Int)]] rfl (fun w' hw' => (implaboveV m k p q q2 wb _ h1 h2 h3 h4 tp tq HQ2).mono (by rintro e w'' ⟨rfl, q9⟩; exact ⟨_, rfl, (spStep_other (by decide) (by decide)).2 (Eq.symm (if_neg (by decide))), Grows.next hw' q9⟩)) ?_; intro v hv; obtain rfl := ((spStep_other (by decide) (by decide)).1 hv).trans (if_neg (by decide)); clear hv; simp only [Act.put, List.setIfInBounds_toArray, List.set_cons_zero, List.set_cons_succ])
      (refine wpRel_callC rfl 133 _ rfl Try.func133 (by kernel_rfl) (by kernel_rfl) [.pointer (some ⟨w.heap.size, 256, none⟩), .agg #[.int .i64 (p : Int), .int .i64 (q2 : Int)]] rfl (fun w' hw' => spAt hw' p16 q216 F3.out) ?_; intro v hv; obtain rfl := spAt_out hv F3.out; clear hv; simp only [Act.put, List.setIfInBounds_toArray, List.set_cons_zero, List.set_cons_succ])
      (refine wpRel_arithC rfl rfl (fun _ n h => Grows.drewN n h) .f32 _ _ rfl rfl ?_; intro d2 hc_d2 hb_d2; have H_d2 := Lib.hid hc_d2; clear hc_d2; replace hb_d2 : d2 < 2 ^ 32 := hb_d2; simp only [Act.put, List.setIfInBounds_toArray, List.set_cons_zero, List.set_cons_succ])
      (refine wpRel_arithC rfl rfl (fun _ n h => Grows.drewN n h) .f32 _ _ rfl rfl ?_; intro d3 hc_d3 hb_d3; have H_d3 := Lib.hid hc_d3; clear hc_d3; replace hb_d3 : d3 < 2 ^ 32 := hb_d3; simp only [Act.put, List.setIfInBounds_toArray, List.set_cons_zero, List.set_cons_succ])
      (refine wpRel_plain rfl rfl ?_; intro K hK; go_big_quiet_op; (first | go_big_quiet_on | (refine ⟨_, fun _ _ => rfl, ?_⟩; go_big_quiet_on)))
      refine wpRel_nil ?_
      intro v4 b4
      replace b4 : Below v33.heap.size v33 v4 := b4
      replace G := G.later b4; replace Z := Z.later b4; replace D := D.later b4; replace K := K.later b4; replace C := C.later b4; replace T := T.later b4
      replace HB := Lib.hid (HB.out.trans (b4.mono HB.out.size))
      have KA2 := Lib.hid (cell_on KA.out b4); have KB2 := Lib.hid (cell_on KB.out b4); clear b4 KA KB F1 F2 F3 F4
      obtain ⟨f0, _, _⟩ := gf_cells G GS.out tp tq HPQ.out
      have F0 := Lib.hid f0; clear f0
      obtain ⟨Tc, Tf⟩ := T.open
      go_wp2_with fail
      refine wp_region_rel_tail (Grows v4) (SpStep v4 (fun _ _ => False)) 20 (by kernel_rfl) (by kernel_rfl) (Grows.drew _) ?_
      simp only [List.take_succ_cons, List.take_zero, List.drop_succ_cons, List.drop_zero]
      (refine wpRel_plain rfl rfl ?_; intro K hK; go_big_quiet_op; (first | go_big_quiet_on | (refine ⟨_, fun _ _ => rfl, ?_⟩; go_big_quiet_on)))
      (refine wpRel_load rfl _ rfl (_) (fun w' hw' => run_loadVar_row w' _ _ _ _ _ _ (C.later hw') Try.underlying134 rfl (by kernel_rfl)) ?_; simp only [Act.put, List.setIfInBounds_toArray, List.set_cons_zero, List.set_cons_succ])
      (refine wpRel_plain rfl rfl ?_; intro K hK; go_big_quiet_op; (first | go_big_quiet_on | (refine ⟨_, fun _ _ => rfl, ?_⟩; go_big_quiet_on)))
      (refine wpRel_load rfl _ rfl (_) (fun w' hw' => run_loadVar_row w' _ _ _ _ _ _ (C.later hw') Try.underlying134 rfl (by kernel_rfl)) ?_; simp only [Act.put, List.setIfInBounds_toArray, List.set_cons_zero, List.set_cons_succ])
      (refine wpRel_callC rfl 133 _ rfl Try.func133 (by kernel_rfl) (by kernel_rfl) [.pointer (some ⟨w.heap.size, 0, none⟩), .agg #[.int .i64 (p : Int), .int .i64 (q : Int)]] rfl (fun w' hw' => spAt hw' p16 q16 F0.out) ?_; intro v hv; obtain rfl := spAt_out hv F0.out; clear hv; simp only [Act.put, List.setIfInBounds_toArray, List.set_cons_zero, List.set_cons_succ])
      (refine wpRel_plain rfl rfl ?_; intro K hK; go_big_quiet_op; (first | go_big_quiet_on | (refine ⟨_, fun _ _ => rfl, ?_⟩; go_big_quiet_on)))
      (refine wpRel_load rfl _ rfl (.slice (some ⟨bb, ob, none⟩) ys.length cb) (load_cell aslc (Tc 4)) ?_; simp only [Act.put, List.setIfInBounds_toArray, List.set_cons_zero, List.set_cons_succ])
      (refine wpRel_plain rfl rfl ?_; intro K hK; go_big_quiet_op; (first | go_big_quiet_on | (refine ⟨_, fun _ _ => rfl, ?_⟩; go_big_quiet_on)))
      (refine wpRel_plain rfl rfl ?_; intro K hK; go_big_quiet_op; (first | go_big_quiet_on | (refine ⟨_, fun _ _ => rfl, ?_⟩; go_big_quiet_on)))
      (refine wpRel_load rfl _ rfl (_) (load_cell af32 KB2.out) ?_; simp only [Act.put, List.setIfInBounds_toArray, List.set_cons_zero, List.set_cons_succ])
      (refine wpRel_arithC rfl rfl (fun _ n h => Grows.drewN n h) .f32 _ _ rfl rfl ?_; intro g1 hc_g1 hb_g1; have H_g1 := Lib.hid hc_g1; clear hc_g1; replace hb_g1 : g1 < 2 ^ 32 := hb_g1; simp only [Act.put, List.setIfInBounds_toArray, List.set_cons_zero, List.set_cons_succ])
      (refine wpRel_callC rfl 137 _ rfl Try.func137 (by kernel_rfl) (by kernel_rfl) [.float .f32 (ea j), .float .f32 (g1)] rfl (fun w' hw' => spMul hw') ?_; intro v hv; obtain ⟨g2, rfl, hc_g2, hb_g2⟩ := spMul_out hv; have H_g2 := Lib.hid hc_g2; clear hv hc_g2; simp only [Act.put, List.setIfInBounds_toArray, List.set_cons_zero, List.set_cons_succ])
      (refine wpRel_plain rfl rfl ?_; intro K hK; go_big_quiet_op; (first | go_big_quiet_on | (refine ⟨_, fun _ _ => rfl, ?_⟩; go_big_quiet_on)))
      (refine wpRel_load rfl _ rfl (.slice (some ⟨ba, oa, none⟩) xs.length ca) (load_cell aslc (Tc 3)) ?_; simp only [Act.put, List.setIfInBounds_toArray, List.set_cons_zero, List.set_cons_succ])
      (refine wpRel_plain rfl rfl ?_; intro K hK; go_big_quiet_op; (first | go_big_quiet_on | (refine ⟨_, fun _ _ => rfl, ?_⟩; go_big_quiet_on)))
      (refine wpRel_plain rfl rfl ?_; intro K hK; go_big_quiet_op; (first | go_big_quiet_on | (refine ⟨_, fun _ _ => rfl, ?_⟩; go_big_quiet_on)))
      (refine wpRel_load rfl _ rfl (_) (load_cell af32 KA2.out) ?_; simp only [Act.put, List.setIfInBounds_toArray, List.set_cons_zero, List.set_cons_succ])
      (refine wpRel_plain rfl rfl ?_; intro K hK; go_big_quiet_op; (first | go_big_quiet_on | (refine ⟨_, fun _ _ => rfl, ?_⟩; go_big_quiet_on)))
      (refine wpRel_callC rfl 137 _ rfl Try.func137 (by kernel_rfl) (by kernel_rfl) [.float .f32 (xj), .float .f32 (d3)] rfl (fun w' hw' => spMul hw') ?_; intro v hv; obtain ⟨g3, rfl, hc_g3, hb_g3⟩ := spMul_out hv; have H_g3 := Lib.hid hc_g3; clear hv hc_g3; simp only [Act.put, List.setIfInBounds_toArray, List.set_cons_zero, List.set_cons_succ])
      (refine wpRel_arithC rfl rfl (fun _ n h => Grows.drewN n h) .f32 _ _ rfl rfl ?_; intro g4 hc_g4 hb_g4; have H_g4 := Lib.hid hc_g4; clear hc_g4; replace hb_g4 : g4 < 2 ^ 32 := hb_g4; simp only [Act.put, List.setIfInBounds_toArray, List.set_cons_zero, List.set_cons_succ])
      refine wpRel_nil ?_
      intro v7 b7
      replace b7 : Below v4.heap.size v4 v7 := b7
      clear Tc Tf
      replace G := G.later b7; replace Z := Z.later b7; replace D := D.later b7; replace K := K.later b7; replace T := T.later b7
      replace HB := Lib.hid (HB.out.trans (b7.mono HB.out.size)); clear b7
      have HV : Hid (canon .f32 g4 = restE wb m k (nums xs) (nums ys) E HX HY j) := Lib.hid (by rw [HEV.out, H_g4.out, H_g3.out, H_g2.out, H_g1.out, H_d3.out, H_d2.out, H_d1.out, HEJ.out, HNX.out, HNY.out, HXJ.out, HXU.out, HYJ.out, HYL.out])
      have hix : 0 + (16 * q + p) < cc.size := by rw [GS.out.1.1]; omega
      have sz7 := HB.out.size
      go_wp2_with fail
      refine (implPut w.heap.size 0 p q g4 _ _ _ p16 q16 G hix).mono ?_
      rintro r v8 ⟨⟨rr, rfl⟩, G8, g8⟩
      replace Z := Z.grown g8 (by simp; omega); replace D := D.grown g8 (by simp; omega); replace T := T.grown g8 (by simp); replace K := K.grown g8 (by simp; omega)
      replace HB := Lib.hid (HB.out.grown g8 sz7 (fun i hi => by cases hi; exact Nat.le_refl _))
      go_wp2
      go_roundw
      case rel => exact ⟨t + 1, _, _, by omega, by go_num, gf_setE GS.out h2 h4 tp tq HPQ.out, agd_put AE.out htt HJT.out HV.out hb_g4, G8, T, K, D, Z, HB.out⟩
      case measure => simp [intOf]; omega
    · skip
      have HEV : Hid (restE wb m k (nums xs) (nums ys) E HX HY j = E j) := Lib.hid (by rw [HDE.out, hbl]; rfl)
      clear hbl
      go_wp2
      go_roundw
      case rel => exact ⟨t + 1, _, _, by omega, by go_num, GS.out, agd_same AE.out htt HJT.out HEV.out, G, T, K, D, Z, HB.out⟩
      case measure => simp [intOf]; omega
  · skip
    obtain rfl : t = ks.length := by omega
    have AEA := Lib.hid (agd_all AE.out); clear AE
    rw [HHX.out, HHY.out] at AEA
    have HS2 : Hid ((Try.prog.info? 125).map (·.size) = some cc.size) := Lib.hid (by rw [GS.out.1.1]; exact grid_size)
    have HS3 : Hid (zgrid.size = cc.size) := Lib.hid (by rw [GS.out.1.1]; exact Array.size_replicate)
    go_wp2_with (first
      | (refine wpList_load_row rfl _ _ rfl _ rfl 125 cc (0, 0) _ G Try.underlying125 rfl HS2.out ?_)
      | (refine wpList_store_row rfl _ _ _ rfl _ cc rfl rfl 125 zgrid D HS2.out HS3.out GS.out.1.2 ?_)
      | fail)
    refine bodyPost_ret (v := .agg cc) (results_cell_row rfl _ _ (w.heap.size + 1 + 1 + 1) 125 cc (0, 0) _ rfl (D.row _) Try.underlying125 rfl HS2.out) rfl ⟨cc, ea, x4, y4, rfl, GS.out, AEA.out, AX0.out, AY0.out, below_setRow HB.out (by omega) _⟩

end Go.Proofs.Ytedfbaeajofmnaa

end
