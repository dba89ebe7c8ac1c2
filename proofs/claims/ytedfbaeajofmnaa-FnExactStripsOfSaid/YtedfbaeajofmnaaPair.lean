/- Lists of pairs of whole numbers that grow. Conditions: none beyond those of each theorem. -/
import Derived.Test.YtedfbaeajofmnaaBu11
import Derived.Test.YtedfbaeajofmnaaBu5
import Derived.Test.YtedfbaeajofmnaaBu19
namespace Go.Proofs.Ytedfbaeajofmnaa
open Go Ieee Go.RowKit
set_option linter.unusedVariables false
set_option linter.unusedSimpArgs false

def OutsT (t : TypeId) (w wr : World) (v : Value) (zs : List (Int × Int)) : Prop := wr.ownsRow w.heap.size t 2 v zs.length (pvals zs) ∧ Below w.heap.size w wr

theorem outsT_nil {t : TypeId} {w wr : World} (h : Below w.heap.size w wr) : OutsT t w wr (.slice none 0 0) [] := ⟨⟨rfl, .inl ⟨rfl, rfl⟩⟩, h⟩

theorem outsT_start {t : TypeId} {w wr : World} (h : Below w.heap.size w wr) : OutsT t w (wr.alloc (.cells #[] t)) (.slice (some ⟨wr.heap.size, 0, none⟩) 0 0) [] :=
  ⟨World.ownsRow_made wr #[] 0 h.size (by decide) rfl, h.alloc h.size _⟩

theorem outsT_next {t : TypeId} {w wr w1 : World} {v v' : Value} {zs : List (Int × Int)} {z : Int × Int} {ob : Obj} (h : OutsT t w wr v zs) (ho : w1.ownsRow w.heap.size t 2 v' (zs.length + 1) (pvals zs ++ [.int .i64 z.1, .int .i64 z.2])) (hg : (wr.alloc ob).grownBy w1 v.ownBlock) : OutsT t w w1 v' (zs ++ [z]) := by
  refine ⟨?_, ?_⟩
  · have e : pvals (zs ++ [z]) = pvals zs ++ [.int .i64 z.1, .int .i64 z.2] := by unfold pvals; rw [List.flatMap_append]; rfl
    rw [e, List.length_append]; exact ho
  · have hz := h.2.size
    exact (h.2.alloc hz ob).grown hg (by simp; omega) (fun k hk => (h.1.lt k hk).1)

theorem outsT_later {t : TypeId} {w wr w1 : World} {v : Value} {zs : List (Int × Int)} (h : OutsT t w wr v zs) (b : Below wr.heap.size wr w1) : OutsT t w w1 v zs :=
  ⟨h.1.kept (grown_of_below b) (Classical.em _), h.2.trans (b.mono h.2.size)⟩

theorem outsT_end {t : TypeId} {w wr : World} {v : Value} {zs : List (Int × Int)} (h : OutsT t w wr v zs) : ∃ a c, v = .slice a zs.length c ∧ OwnV wr w.heap.size a (pvals zs) ∧ Below w.heap.size w wr := by
  rcases h.1.2 with ⟨hv, h0⟩ | ⟨g, cap, cur, hv, _⟩
  · have : zs = [] := List.eq_nil_of_length_eq_zero h0
    subst this; subst hv
    exact ⟨none, 0, rfl, .inl ⟨rfl, rfl⟩, h.2⟩
  · subst hv
    exact ⟨_, cap, rfl, OwnV.of_owned2 h.1, h.2⟩

theorem oneT_news (t : TypeId) (wr : World) (x y : Int) : ∀ (j : Nat) (u : Value), [Value.int .i64 x, .int .i64 y][j]? = some u → (wr.alloc (.cells #[.int .i64 x, .int .i64 y] t)).cell? ((⟨wr.heap.size, 0, none⟩ : Addr).add j) = some u := by
  intro j u hu
  have hb := (Blk.new wr #[.int .i64 x, .int .i64 y] t).open.1
  match j with
  | 0 => simp at hu; subst hu; exact hb 0
  | 1 => simp at hu; subst hu; exact hb 1
  | j + 2 => simp at hu

theorem oneT_cells (x y : Int) : ∀ u ∈ [Value.int .i64 x, .int .i64 y], u.oneCell' = true := by
  intro u hu; simp at hu; rcases hu with rfl | rfl <;> rfl

structure GotPairs (B : Nat) (w w' : World) (m : List (Int × Int)) (a : Option Addr) (y : List (Int × Int)) : Prop where
  o : OwnV w' B a (pvals y)
  s : y = m ∧ y.length ≤ 256
  below : Below B w w'

theorem GotPairs.none {B : Nat} {w w' : World} (b : Below B w w') : GotPairs B w w' [] none [] := ⟨.inl ⟨rfl, rfl⟩, ⟨rfl, by decide⟩, b⟩

theorem fewT_max {y m : List (Int × Int)} (h : y = m ∧ y.length ≤ 256) : y.length ≤ maxLen := by
  have := h.2
  unfold maxLen; omega

def GaveT2 (w : World) (b : Bool) (z : List (Int × Int)) (r : Ending) (w' : World) : Prop :=
  ∃ (a : Option Addr) (c : Nat) (y : List (Int × Int)), r = .returned (.tuple #[.slice a y.length c, .bool b]) ∧ GotPairs w.heap.size w w' (if b then z else []) a y

theorem madeCells_two (z : Value) (n : Nat) : madeCells #[z, z] n = (List.replicate n z).toArray := by
  apply Array.ext
  · simp [madeCells]
  · intro i h1 h2
    have hm : i % 2 = 0 ∨ i % 2 = 1 := by omega
    simp only [madeCells, Array.getElem_map, Array.getElem_range, List.getElem_toArray, List.getElem_replicate]
    rcases hm with h | h <;> simp [h]

theorem pvals_zeros (n : Nat) : pvals (List.replicate n (0, 0)) = List.replicate (n * 2) (Value.int .i64 0) := by
  induction n with
  | zero => rfl
  | succ n ih =>
    rw [List.replicate_succ, show (n + 1) * 2 = n * 2 + 1 + 1 by omega, List.replicate_succ, List.replicate_succ, ← ih]; rfl

theorem pvals_set {ps : List (Int × Int)} {k : Nat} {a b : Int} (h : k < ps.length) : ((pvals ps).set (k * 2) (.int .i64 a)).set (k * 2 + 1) (.int .i64 b) = pvals (ps.set k (a, b)) := by
  induction ps generalizing k with
  | nil => simp at h
  | cons p ps ih =>
    cases k with
    | zero => rfl
    | succ k =>
      have h' : k < ps.length := by simpa using h
      show ((Value.int .i64 p.1 :: .int .i64 p.2 :: pvals ps).set ((k + 1) * 2) _).set ((k + 1) * 2 + 1) _ = Value.int .i64 p.1 :: .int .i64 p.2 :: pvals (ps.set k (a, b))
      rw [show (k + 1) * 2 = k * 2 + 1 + 1 by omega, ← ih h']
      rfl

theorem own_zerosP (w : World) (n : Nat) (t : TypeId) : OwnV (w.alloc (.cells (List.replicate (n * 2) (Value.int .i64 0)).toArray t)) w.heap.size (some ⟨w.heap.size, 0, none⟩) (pvals (List.replicate n (0, 0))) :=
  .inr ⟨_, _, t, rfl, Nat.le_refl _, Blk.new w _ t, fun i u h => by rw [pvals_zeros] at h; rw [List.getElem?_toArray]; exact h⟩

theorem Try.infoCell : (Try.prog.info? 134).map (fun i => (i.zero, i.size, i.bytes)) = some (some (.agg #[.int .i64 0, .int .i64 0]), 2, 16) := by kernel_rfl

theorem make_capCell (n : Nat) (hn : n ≤ 1048576) (w : World) : (Instr.makeSlice 128 (.int .i64 0) (.int .i64 (n : Int))).run Try.prog w = .ok (.slice (some ⟨w.heap.size, 0, none⟩) 0 n) (w.alloc (.cells (List.replicate (n * 2) (Value.int .i64 0)).toArray 134)) := by
  obtain ⟨i0, hi, hz0, hz1, hz2⟩ := info_parts Try.infoCell
  have := run_make (P := Try.prog) w 128 134 i0 (.agg #[.int .i64 0, .int .i64 0]) Try.underlying128 hi hz0 .i64 .i64 0 n (by omega) (by omega) (by rw [hz2]; omega) (by omega)
  rw [this, hz1, Int.toNat_natCast, ← madeCells_two]; rfl

theorem make_fullCell (n : Nat) (hn : n ≤ 1048576) (w : World) : (Instr.makeSlice 128 (.int .i64 (n : Int)) (.int .i64 (n : Int))).run Try.prog w = .ok (.slice (some ⟨w.heap.size, 0, none⟩) n n) (w.alloc (.cells (List.replicate (n * 2) (Value.int .i64 0)).toArray 134)) := by
  obtain ⟨i0, hi, hz0, hz1, hz2⟩ := info_parts Try.infoCell
  have := run_make (P := Try.prog) w 128 134 i0 (.agg #[.int .i64 0, .int .i64 0]) Try.underlying128 hi hz0 .i64 .i64 n n (by omega) (Int.le_refl _) (by rw [hz2]; omega) (by omega)
  rw [this, hz1, Int.toNat_natCast, ← madeCells_two]; rfl

theorem outs_capCell {w wr : World} (n : Nat) (hn : n ≤ 1048576) (h : Below w.heap.size w wr) : OutsT 134 w (wr.alloc (.cells (List.replicate (n * 2) (Value.int .i64 0)).toArray 134)) (.slice (some ⟨wr.heap.size, 0, none⟩) 0 n) [] :=
  ⟨World.ownsRow_made wr _ n h.size (by unfold maxLen; omega) (by simp), h.alloc h.size _⟩

theorem Try.infoStrip : (Try.prog.info? 31).map (fun i => (i.zero, i.size, i.bytes)) = some (some (.agg #[.int .i64 0, .int .i64 0]), 2, 16) := by kernel_rfl

theorem make_capStrip (n : Nat) (hn : n ≤ 1048576) (w : World) : (Instr.makeSlice 46 (.int .i64 0) (.int .i64 (n : Int))).run Try.prog w = .ok (.slice (some ⟨w.heap.size, 0, none⟩) 0 n) (w.alloc (.cells (List.replicate (n * 2) (Value.int .i64 0)).toArray 31)) := by
  obtain ⟨i0, hi, hz0, hz1, hz2⟩ := info_parts Try.infoStrip
  have := run_make (P := Try.prog) w 46 31 i0 (.agg #[.int .i64 0, .int .i64 0]) Try.underlying46 hi hz0 .i64 .i64 0 n (by omega) (by omega) (by rw [hz2]; omega) (by omega)
  rw [this, hz1, Int.toNat_natCast, ← madeCells_two]; rfl

theorem make_fullStrip (n : Nat) (hn : n ≤ 1048576) (w : World) : (Instr.makeSlice 46 (.int .i64 (n : Int)) (.int .i64 (n : Int))).run Try.prog w = .ok (.slice (some ⟨w.heap.size, 0, none⟩) n n) (w.alloc (.cells (List.replicate (n * 2) (Value.int .i64 0)).toArray 31)) := by
  obtain ⟨i0, hi, hz0, hz1, hz2⟩ := info_parts Try.infoStrip
  have := run_make (P := Try.prog) w 46 31 i0 (.agg #[.int .i64 0, .int .i64 0]) Try.underlying46 hi hz0 .i64 .i64 n n (by omega) (Int.le_refl _) (by rw [hz2]; omega) (by omega)
  rw [this, hz1, Int.toNat_natCast, ← madeCells_two]; rfl

theorem outs_capStrip {w wr : World} (n : Nat) (hn : n ≤ 1048576) (h : Below w.heap.size w wr) : OutsT 31 w (wr.alloc (.cells (List.replicate (n * 2) (Value.int .i64 0)).toArray 31)) (.slice (some ⟨wr.heap.size, 0, none⟩) 0 n) [] :=
  ⟨World.ownsRow_made wr _ n h.size (by unfold maxLen; omega) (by simp), h.alloc h.size _⟩

/-! ### Lists of numbers of which some are made anew -/

def mixd (d : Nat → Bool) (A B : Nat → Option Nat) (i : Nat) : Option Nat := if d i then A i else B i
def memD (js : List Nat) (t i : Nat) : Bool := decide (i ∈ js.take t)

theorem memD_zero (js : List Nat) (i : Nat) : memD js 0 i = false := by simp [memD]
theorem memD_all (js : List Nat) (i : Nat) : memD js js.length i = decide (i ∈ js) := by simp [memD]
theorem memD_next {js : List Nat} {t : Nat} (h : t < js.length) (i : Nat) : memD js (t + 1) i = (memD js t i || decide (i = js[t])) := by
  unfold memD
  rw [List.take_succ_eq_append_getElem h, ← Bool.decide_or, decide_eq_decide, List.mem_append, List.mem_singleton]
theorem memD_here {js : List Nat} (hn : js.Nodup) {t : Nat} (h : t < js.length) : memD js t js[t] = false := by
  unfold memD
  rw [decide_eq_false]
  intro hm
  obtain ⟨i, hi, he⟩ := List.mem_iff_getElem.1 hm
  rw [List.length_take] at hi
  rw [List.getElem_take] at he
  have := (List.getElem_inj hn).1 he
  omega

theorem agd_zero {n : Nat} {js : List Nat} {F : Nat → Nat} {A B : Nat → Option Nat} (h : Ag n F B) : Ag n F (mixd (memD js 0) A B) := fun q hq => by
  unfold mixd; rw [memD_zero]; exact h q hq

theorem agd_put {n t j v : Nat} {js : List Nat} {F : Nat → Nat} {A B : Nat → Option Nat} (h : Ag n F (mixd (memD js t) A B)) (ht : t < js.length) (hj : js[t] = j) (hc : canon .f32 v = A j) (hv : v < 2 ^ 32) : Ag n (up1 F j v) (mixd (memD js (t + 1)) A B) := fun q hq => by
  unfold up1 mixd
  rw [memD_next ht, hj]
  by_cases e : q = j
  · subst e; rw [if_pos rfl, decide_eq_true rfl, Bool.or_true, if_pos rfl]; exact ⟨hc, hv⟩
  · rw [if_neg e, decide_eq_false e, Bool.or_false]
    exact h q hq

theorem agd_same {n t j : Nat} {js : List Nat} {F : Nat → Nat} {A B : Nat → Option Nat} (h : Ag n F (mixd (memD js t) A B)) (ht : t < js.length) (hj : js[t] = j) (he : A j = B j) : Ag n F (mixd (memD js (t + 1)) A B) := fun q hq => by
  have := h q hq
  unfold mixd at this ⊢
  rw [memD_next ht, hj]
  by_cases e : q = j
  · subst e
    rw [decide_eq_true rfl, Bool.or_true, if_pos rfl, he]
    cases hm : memD js t q
    · rw [hm] at this; exact this
    · rw [hm, if_pos rfl, he] at this; exact this
  · rw [decide_eq_false e, Bool.or_false]; exact this

theorem agd_here {n t j : Nat} {js : List Nat} {F : Nat → Nat} {A B : Nat → Option Nat} (h : Ag n F (mixd (memD js t) A B)) (hn : js.Nodup) (ht : t < js.length) (hj : js[t] = j) (hl : j < n) : canon .f32 (F j) = B j ∧ F j < 2 ^ 32 := by
  have := h j hl
  subst hj
  unfold mixd at this
  rw [memD_here hn ht] at this
  exact this

theorem agd_all {n : Nat} {js : List Nat} {F : Nat → Nat} {A B : Nat → Option Nat} (h : Ag n F (mixd (memD js js.length) A B)) : Ag n F (mixd (fun i => decide (i ∈ js)) A B) := fun q hq => by
  have := h q hq
  unfold mixd at this ⊢
  rw [memD_all] at this; exact this

/-- the cells for which a test holds, row by row -/
def pick (n : Nat) (p : Nat → Bool) : List Nat := (List.range n).filter p
def cellsT (m : Nat) (js : List Nat) : List (Int × Int) := js.map fun (j : Nat) => (((j % m : Nat) : Int), ((j / m : Nat) : Int))
theorem pick_zero (p : Nat → Bool) : pick 0 p = [] := rfl
theorem pick_yes {p : Nat → Bool} {n : Nat} (h : p n = true) : pick (n + 1) p = pick n p ++ [n] := by unfold pick; rw [List.range_succ, List.filter_append, List.filter_cons_of_pos h]; rfl
theorem pick_no {p : Nat → Bool} {n : Nat} (h : p n = false) : pick (n + 1) p = pick n p := by unfold pick; rw [List.range_succ, List.filter_append, List.filter_cons_of_neg (by simp [h])]; simp
theorem pick_len (n : Nat) (p : Nat → Bool) : (pick n p).length ≤ n := by have := List.length_filter_le p (List.range n); rw [List.length_range] at this; exact this
theorem pick_nodup (n : Nat) (p : Nat → Bool) : (pick n p).Nodup := List.nodup_range.filter _
theorem pick_mem {n : Nat} {p : Nat → Bool} {i : Nat} (h : i < n) : decide (i ∈ pick n p) = p i := by
  unfold pick
  cases hp : p i
  · rw [decide_eq_false]; rw [List.mem_filter]; intro h2; rw [hp] at h2; exact Bool.noConfusion h2.2
  · rw [decide_eq_true]; rw [List.mem_filter]; exact ⟨List.mem_range.2 h, hp⟩
theorem pick_lt {n : Nat} {p : Nat → Bool} {i : Nat} (h : i ∈ pick n p) : i < n := List.mem_range.1 (List.mem_filter.1 h).1
theorem cellsT_snoc (m : Nat) (js : List Nat) (j : Nat) : cellsT m (js ++ [j]) = cellsT m js ++ [(((j % m : Nat) : Int), ((j / m : Nat) : Int))] := by unfold cellsT; rw [List.map_append]; rfl
theorem cellsT_len (m : Nat) (js : List Nat) : (cellsT m js).length = js.length := List.length_map ..
theorem agd_pick {n : Nat} {p : Nat → Bool} {F : Nat → Nat} {A B : Nat → Option Nat} (h : Ag n F (mixd (memD (pick n p) (pick n p).length) A B)) : Ag n F (mixd p A B) := fun q hq => by
  have := agd_all h q hq
  unfold mixd at this ⊢
  have e : (fun i => decide (i ∈ pick n p)) q = p q := pick_mem hq
  rw [e] at this; exact this
theorem mixd_true (A B : Nat → Option Nat) : mixd (fun _ => true) A B = A := rfl

/-- a cell of a list of cells -/
theorem cell_row {w : World} {a : Option Addr} {m : Nat} {js : List Nat} (h : RowV w a (pvals (cellsT m js))) {t : Nat} (ht : t < js.length) : ∃ b off, a = some ⟨b, off, none⟩ ∧ w.cell? ⟨b, off + t * 2, none⟩ = some (.int .i64 ((js[t] % m : Nat) : Int)) ∧ w.cell? ⟨b, off + t * 2 + 1, none⟩ = some (.int .i64 ((js[t] / m : Nat) : Int)) := by
  have hl : t < (cellsT m js).length := by rw [cellsT_len]; exact ht
  obtain ⟨g1, g2⟩ := pvals_get hl
  obtain ⟨b, off, rfl, hc⟩ := h (t * 2) _ g1
  obtain ⟨b', off', e', hc2⟩ := h (t * 2 + 1) _ g2
  cases e'
  refine ⟨b, off, rfl, ?_, ?_⟩
  · rw [hc]; simp only [cellsT, List.getElem_map]
  · rw [show off + t * 2 + 1 = off + (t * 2 + 1) by omega, hc2]; simp only [cellsT, List.getElem_map]

end Go.Proofs.Ytedfbaeajofmnaa
