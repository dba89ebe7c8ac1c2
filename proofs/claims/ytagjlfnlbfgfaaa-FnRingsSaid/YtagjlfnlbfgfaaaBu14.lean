/- Several texts in one: facts on floats, lists, memory and the functions that the theorems beside this text use. Conditions: none beyond those of each theorem. -/
import Derived.Test.YtagjlfnlbfgfaaaBu7
import Derived.Test.YtagjlfnlbfgfaaaBu5
import Derived.Deep.RegionHeld3
import Derived.Deep.AppendLies
import Derived.Test.YtagjlfnlbfgfaaaBu11
import Derived.Test.YtagjlfnlbfgfaaaBu2

set_option linter.unusedVariables false

section

namespace Go.Proofs.Ytagjlfnlbfgfaaa
open Go Ieee Go.RowKit
set_option linter.unusedVariables false

structure GotList (B : Nat) (w w' : World) (m : List (Option Nat)) (a : Option Addr) (y : List Nat) : Prop where
  o : OwnV w' B a (fvals y)
  s : Is y m
  below : Below B w w'

theorem GotList.none {B : Nat} {w w' : World} (b : Below B w w') : GotList B w w' [] none [] := ⟨nil_own _ _, Is.nil, b⟩

def GaveL (w : World) (b : Bool) (z : List Nat) (r : Ending) (w' : World) : Prop :=
  ∃ (a : Option Addr) (c : Nat) (y : List Nat), r = .returned (.tuple #[.slice a y.length c, .bool b]) ∧ GotList w.heap.size w w' (ifL b z) a y

end Go.Proofs.Ytagjlfnlbfgfaaa

end

section

namespace Go.Proofs.Ytagjlfnlbfgfaaa
open Go Ieee Go.RowKit
set_option linter.unusedVariables false

def colB (wd hi : Int) (wb : Bool) (xs ys e x y : List Nat) (u : Int) : Bool := fieldB wd hi wb xs ys e x y && cellB wd hi u 0
def colF (wd u : Int) (i : Nat) : Nat := (u + wd * (i : Int)).toNat

theorem cellB_col {wd hi u : Int} (h : 3 ≤ hi) : cellB wd hi u 0 = decide (0 ≤ u ∧ u ≤ wd - 1) := by
  unfold cellB; rw [show decide ((0 : Int) ≤ 0 ∧ 0 ≤ hi - 1) = true from decide_eq_true (by omega), Bool.and_true]

theorem make_f32cap (n : Nat) (hn : n ≤ 1048576) (w : World) : (Instr.makeSlice 24 (.int .i64 0) (.int .i64 (n : Int))).run Try.prog w = .ok (.slice (some ⟨w.heap.size, 0, none⟩) 0 n) (w.alloc (.cells (List.replicate n (Value.float .f32 0)).toArray 58)) := by
  obtain ⟨i0, hi, hz0, hz1, hz2⟩ := info_parts Try.infoF32
  have := run_make (P := Try.prog) w 24 58 i0 (.float .f32 0) Try.underlying24 hi hz0 .i64 .i64 0 n (by omega) (by omega) (by rw [hz2]; omega) (by omega)
  rw [this, hz1, Nat.mul_one, Int.toNat_natCast]
  have e : madeCells (Value.float FloatKind.f32 0).cells n = (List.replicate n (Value.float .f32 0)).toArray := by
    apply Array.toList_inj.1
    rw [show (Value.float FloatKind.f32 0).cells = #[.float .f32 0] from rfl, toList_madeCells_one]
  rw [e]; rfl

theorem outs_cap (w : World) (n : Nat) (hn : n ≤ 1048576) : Outs w (w.alloc (.cells (List.replicate n (Value.float .f32 0)).toArray 58)) (.slice (some ⟨w.heap.size, 0, none⟩) 0 n) 0 [] :=
  ⟨rfl, World.ownsRow_made w _ n (Nat.le_refl _) (by unfold maxLen; omega) (by simp), (Below.refl _ _).alloc (Nat.le_refl _) _⟩

theorem grown_of_below {w w' : World} (b : Below w.heap.size w w') : w.grownBy w' none := ⟨b.os, b.tape, b.output, b.size, fun k hk _ => b.block k hk⟩

theorem outs_later {w wr w1 : World} {v : Value} {n : Nat} {zs : List Nat} (h : Outs w wr v n zs) (b : Below wr.heap.size wr w1) : Outs w w1 v n zs :=
  ⟨h.1, h.2.1.kept (grown_of_below b) (Classical.em _), h.2.2.trans (b.mono h.2.2.size)⟩

theorem keepB2c1 {u w' : World} {g0 g1 : Nat} {c0 c1 : Array Value} {t0 t1 : TypeId} {p : Addr} {v : Value} (x0 : Blk u g0 c0 t0) (x1 : Blk u g1 c1 t1) (y0 : u.cell? p = some v) (b : Below u.heap.size u w') : (∀ i, w'.cell? ⟨g0, i, none⟩ = c0[i]?) ∧ (∀ i, w'.cell? ⟨g1, i, none⟩ = c1[i]?) ∧ w'.cell? p = some v ∧ Below u.heap.size u w' :=
  ⟨(x0.below b x0.lt).open.1, (x1.below b x1.lt).open.1, cell_on y0 b, b⟩

end Go.Proofs.Ytagjlfnlbfgfaaa

end

section

namespace Go.Proofs.Ytagjlfnlbfgfaaa
open Go Ieee Go.RowKit
set_option linter.unusedVariables false

def readB (wd hi : Int) (wb : Bool) (xs ys e x y : List Nat) (ps : List (Int × Int)) : Bool := fieldB wd hi wb xs ys e x y && probesB wd hi ps
def readF (wd : Int) (ps : List (Int × Int)) (i : Nat) : Nat := ((ps.getD i (0, 0)).1 + wd * (ps.getD i (0, 0)).2).toNat

theorem probes_parts {wd hi : Int} {ps : List (Int × Int)} (h : probesB wd hi ps = true) : ps.length ≤ 8 ∧ ∀ k (hk : k < ps.length), cellB wd hi ps[k].1 ps[k].2 = true := by
  unfold probesB at h
  rw [Bool.and_eq_true, decide_eq_true_eq, List.all_eq_true] at h
  exact ⟨h.1, fun k hk => h.2 _ (List.getElem_mem hk)⟩

theorem readF_in {wd hi : Int} {ps : List (Int × Int)} {n : Nat} (h : probesB wd hi ps = true) (t2 : wd * hi ≤ 256) (hn : (n : Int) = wd * hi) (k : Nat) (hk : k < ps.length) :
    (readF wd ps k : Int) = ps[k].1 + wd * ps[k].2 ∧ readF wd ps k < n ∧ 0 ≤ wd * ps[k].2 ∧ wd * ps[k].2 ≤ 256 ∧ 0 ≤ ps[k].1 ∧ ps[k].1 ≤ 256 ∧ 0 ≤ ps[k].2 ∧ ps[k].2 ≤ 256 := by
  have hc := (probes_parts h).2 k hk
  obtain ⟨i1, i2, i3, i4⟩ := index_in hc t2
  obtain ⟨j1, j2, j3, j4⟩ := cell_in hc
  have e : readF wd ps k = (ps[k].1 + wd * ps[k].2).toNat := by
    unfold readF
    rw [List.getD_eq_getElem?_getD, List.getElem?_eq_getElem hk, Option.getD_some]
  rw [e, Int.toNat_of_nonneg i2]
  have hw1 : wd ≤ wd * hi := by
    have h1 : 0 ≤ wd := by omega
    have := Int.mul_le_mul_of_nonneg_left (show (1 : Int) ≤ hi by omega) h1
    omega
  have hw2 : hi ≤ wd * hi := by
    have h1 : 0 ≤ hi := by omega
    have := Int.mul_le_mul_of_nonneg_right (show (1 : Int) ≤ wd by omega) h1
    omega
  exact ⟨rfl, by omega, i1, i4, j1, by omega, j3, by omega⟩

theorem outs_endG {w wr : World} {v : Value} {n : Nat} {zs : List Nat} (h : Outs w wr v n zs) : ∃ a c, v = .slice a n c ∧ OwnV wr w.heap.size a (fvals zs) ∧ Below w.heap.size w wr := by
  rcases h.2.1.2 with ⟨hv, h0⟩ | ⟨g, cap, cur, hv, _⟩
  · subst hv; subst h0
    exact ⟨none, 0, rfl, OwnV.of_owned h.2.1, h.2.2⟩
  · subst hv
    exact ⟨_, cap, rfl, OwnV.of_owned h.2.1, h.2.2⟩

theorem make_f32capA (n : Nat) (hn : n ≤ 1048576) (w : World) : (Instr.makeSlice 24 (.int .i64 0) (.int .i64 (n : Int))).run Try.prog w = .ok (.slice (some ⟨w.heap.size, 0, none⟩) 0 n) (w.alloc (.cells (Array.replicate n (Value.float .f32 0)) 58)) := by
  have := make_f32cap n hn w
  rwa [List.toArray_replicate] at this

theorem outs_capA (w : World) (n : Nat) (hn : n ≤ 1048576) : Outs w (w.alloc (.cells (Array.replicate n (Value.float .f32 0)) 58)) (.slice (some ⟨w.heap.size, 0, none⟩) 0 n) 0 [] := by
  have := outs_cap w n hn
  rwa [List.toArray_replicate] at this

theorem own_block_lt {w : World} {B : Nat} {t : TypeId} {s n : Nat} {v : Value} {xs : List Value} (h : w.ownsRow B t s v n xs) : ∀ k, v.ownBlock = some k → k < w.heap.size := by
  intro k hk
  rcases h.2 with ⟨hv, _⟩ | ⟨g, cap, cur, hv, _, hb, _⟩
  · subst hv; cases hk
  · subst hv
    simp only [Value.ownBlock, Option.some.injEq] at hk
    subst hk
    rcases Nat.lt_or_ge g w.heap.size with a | a
    · exact a
    · rw [Array.getElem?_eq_none a] at hb; cases hb

theorem keepB2c3 {u w' : World} {g0 g1 : Nat} {c0 c1 : Array Value} {t0 t1 : TypeId} {p0 p1 p2 : Addr} {v0 v1 v2 : Value} (x0 : Blk u g0 c0 t0) (x1 : Blk u g1 c1 t1) (y0 : u.cell? p0 = some v0) (y1 : u.cell? p1 = some v1) (y2 : u.cell? p2 = some v2) (b : Below u.heap.size u w') : (∀ i, w'.cell? ⟨g0, i, none⟩ = c0[i]?) ∧ (∀ i, w'.cell? ⟨g1, i, none⟩ = c1[i]?) ∧ w'.cell? p0 = some v0 ∧ w'.cell? p1 = some v1 ∧ w'.cell? p2 = some v2 ∧ Below u.heap.size u w' :=
  ⟨(x0.below b x0.lt).open.1, (x1.below b x1.lt).open.1, cell_on y0 b, cell_on y1 b, cell_on y2 b, b⟩

theorem keepQ2c1 {u w' : World} {g0 g1 g2 : Nat} {c0 c1 c2 : Array Value} {t0 t1 t2 : TypeId} {p : Addr} {v : Value} (x0 : Blk u g0 c0 t0) (x1 : Blk u g1 c1 t1) (y0 : u.cell? p = some v) (x2 : Blk w' g2 c2 t2) (b : Below u.heap.size u w') : (∀ i, w'.cell? ⟨g0, i, none⟩ = c0[i]?) ∧ (∀ i, w'.cell? ⟨g1, i, none⟩ = c1[i]?) ∧ (∀ i, w'.cell? ⟨g2, i, none⟩ = c2[i]?) ∧ w'.cell? p = some v ∧ Below u.heap.size u w' :=
  ⟨(x0.below b x0.lt).open.1, (x1.below b x1.lt).open.1, x2.open.1, cell_on y0 b, b⟩

end Go.Proofs.Ytagjlfnlbfgfaaa

end

section

namespace Go.Proofs.Ytagjlfnlbfgfaaa
open Go Ieee Go.RowKit
set_option linter.unusedVariables false

def marksI (k : Int) (n : Nat) : List Int := (List.range n).map fun (i : Nat) => k + (i : Int)
theorem marksI_length (k : Int) (n : Nat) : (marksI k n).length = n := by simp [marksI]
theorem marksI_get {k : Int} {n i : Nat} (h : i < n) : (ivals (marksI k n))[i]? = some (.int .i64 (k + i)) := by
  rw [ivals_get (by rw [marksI_length]; exact h)]
  simp [marksI]

def markedI (k : Int) (vs : List Value) (i : Nat) : List Value := ((ivals (marksI k vs.length)).take i) ++ vs.drop i
theorem markedI_zero (k : Int) (vs : List Value) : markedI k vs 0 = vs := by simp [markedI]
theorem markedI_all (k : Int) (vs : List Value) : markedI k vs vs.length = ivals (marksI k vs.length) := by
  unfold markedI
  rw [List.drop_length, List.append_nil, List.take_of_length_le (by rw [ivals_length, marksI_length]; exact Nat.le_refl _)]
theorem markedI_length (k : Int) (vs : List Value) (i : Nat) (h : i ≤ vs.length) : (markedI k vs i).length = vs.length := by
  unfold markedI; simp [ivals_length, marksI_length]; omega
theorem markedI_next (k : Int) (vs : List Value) (i : Nat) (h : i < vs.length) : (markedI k vs i).set i (.int .i64 (k + i)) = markedI k vs (i + 1) := by
  have hl := markedI_length k vs i (by omega)
  apply List.ext_getElem?
  intro j
  rw [List.getElem?_set]
  by_cases hj : i = j
  · subst hj
    rw [if_pos rfl, hl, if_pos h]
    unfold markedI
    rw [List.getElem?_append_left (by simp [ivals_length, marksI_length]; omega), List.getElem?_take, if_pos (by omega), marksI_get h]
  · rw [if_neg hj]
    unfold markedI
    by_cases h2 : j < i
    · rw [List.getElem?_append_left (by simp [ivals_length, marksI_length]; omega), List.getElem?_append_left (by simp [ivals_length, marksI_length]; omega), List.getElem?_take, List.getElem?_take, if_pos h2, if_pos (by omega)]
    · rw [List.getElem?_append_right (by simp [ivals_length, marksI_length]; omega), List.getElem?_append_right (by simp [ivals_length, marksI_length]; omega)]
      simp only [List.length_take, ivals_length, marksI_length, List.getElem?_drop]
      congr 1
      omega

def MarkedI (B : Nat) (a : Option Addr) (k : Int) (n : Nat) (w : World) (e : Ending) (w' : World) : Prop :=
  e = .returned (.int .i64 (k + n)) ∧ OwnV w' B a (ivals (marksI k n)) ∧ w.grownBy w' (blockOf a)

structure GotInts (B : Nat) (w w' : World) (m : List Int) (a : Option Addr) (y : List Int) : Prop where
  o : OwnV w' B a (ivals y)
  s : y = m ∧ y.length ≤ 256
  below : Below B w w'

theorem GotInts.none {B : Nat} {w w' : World} (b : Below B w w') : GotInts B w w' [] none [] := ⟨.inl ⟨rfl, rfl⟩, ⟨rfl, by decide⟩, b⟩

theorem fewI_max {y m : List Int} (h : y = m ∧ y.length ≤ 256) : y.length ≤ maxLen := by
  have := h.2
  unfold maxLen; omega

end Go.Proofs.Ytagjlfnlbfgfaaa

end

section

namespace Go.Proofs.Ytagjlfnlbfgfaaa
open Go Ieee Go.RowKit
set_option linter.unusedVariables false

end Go.Proofs.Ytagjlfnlbfgfaaa

end
