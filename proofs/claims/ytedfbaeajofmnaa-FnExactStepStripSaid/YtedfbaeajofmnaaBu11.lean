/- Several texts in one: facts on floats, lists, memory and the functions that the theorems beside this text use. Conditions: none beyond those of each theorem. -/
import Derived.Test.YtedfbaeajofmnaaBu2
import Derived.Test.YtedfbaeajofmnaaBu5

set_option linter.unusedVariables false

section

namespace Go.Proofs.Ytedfbaeajofmnaa
open Go Ieee Go.RowKit
set_option linter.unusedVariables false

/-- the cells of a list of pairs -/
def pvals (ps : List (Int × Int)) : List Value := ps.flatMap fun p => [.int .i64 p.1, .int .i64 p.2]

theorem pvals_length (ps : List (Int × Int)) : (pvals ps).length = ps.length * 2 := by
  induction ps with
  | nil => rfl
  | cons p ps ih => 
    show ((Value.int .i64 p.1) :: (.int .i64 p.2) :: pvals ps).length = _
    simp only [List.length_cons, ih]; omega

theorem pvals_get {ps : List (Int × Int)} {k : Nat} (h : k < ps.length) : (pvals ps)[k * 2]? = some (.int .i64 ps[k].1) ∧ (pvals ps)[k * 2 + 1]? = some (.int .i64 ps[k].2) := by
  induction ps generalizing k with
  | nil => simp at h
  | cons p ps ih =>
    cases k with
    | zero => exact ⟨rfl, rfl⟩
    | succ k =>
      have hk : k < ps.length := by simpa using h
      have e : pvals (p :: ps) = .int .i64 p.1 :: .int .i64 p.2 :: pvals ps := rfl
      rw [e, show (k + 1) * 2 = k * 2 + 1 + 1 by omega]
      simpa using ih hk

/-- a list behind i cells: what was copied, and what stood there -/
def partL (vs zs : List Value) (i : Nat) : List Value := vs.take i ++ zs.drop i
theorem partL_zero (vs zs : List Value) : partL vs zs 0 = zs := by simp [partL]
theorem partL_all {vs zs : List Value} (h : zs.length = vs.length) : partL vs zs vs.length = vs := by unfold partL; rw [List.take_of_length_le (Nat.le_refl _), List.drop_eq_nil_of_le (by omega), List.append_nil]
theorem partL_length {vs zs : List Value} (h : zs.length = vs.length) {i : Nat} (hi : i ≤ vs.length) : (partL vs zs i).length = vs.length := by simp [partL]; omega
theorem partL_set {vs zs : List Value} (h : zs.length = vs.length) {i : Nat} {u : Value} (hu : vs[i]? = some u) : (partL vs zs i).set i u = partL vs zs (i + 1) := by
  have hi : i < vs.length := (List.getElem?_eq_some_iff.1 hu).1
  apply List.ext_getElem?
  intro j
  rw [List.getElem?_set, partL_length h (by omega)]
  unfold partL
  by_cases hj : i = j
  · subst hj
    rw [if_pos rfl, if_pos hi, List.getElem?_append_left (by simp; omega), List.getElem?_take, if_pos (by omega), hu]
  · rw [if_neg hj]
    by_cases h2 : j < i
    · rw [List.getElem?_append_left (by simp; omega), List.getElem?_append_left (by simp; omega), List.getElem?_take, List.getElem?_take, if_pos h2, if_pos (by omega)]
    · rw [List.getElem?_append_right (by simp; omega), List.getElem?_append_right (by simp; omega)]
      simp only [List.length_take, List.getElem?_drop]
      congr 1
      omega

theorem OwnV.of_owned2 {w : World} {B s : Nat} {a : Option Addr} {vs : List Value} {e : TypeId} {n cap : Nat} (h : w.ownsRow B e s (.slice a n cap) n vs) : OwnV w B a vs := by
  rcases h.2 with ⟨h', hn⟩ | ⟨g, cap', cur, h', hg, hh, _, _, _, ht⟩
  · simp only [Value.slice.injEq] at h'
    refine .inl ⟨h'.1, ?_⟩
    have := h.1
    rw [hn] at this
    exact List.eq_nil_of_length_eq_zero (by simpa using this)
  · simp only [Value.slice.injEq] at h'
    refine .inr ⟨g, cur, e, h'.1, hg, hh, fun i u hu => ?_⟩
    rw [← ht, List.getElem?_take] at hu
    split at hu
    · simpa using hu
    · cases hu

structure CopiedP (w w' : World) (ps : List (Int × Int)) (g : Nat) : Prop where
  o0 : OwnV w' w.heap.size (some ⟨g, 0, none⟩) (pvals ps)
  below : Below w.heap.size w w'
  lt : w.heap.size < w'.heap.size

theorem keep0c4_start {u : World} {p0 p1 p2 p3 : Addr} {v0 v1 v2 v3 : Value} (y0 : u.cell? p0 = some v0) (y1 : u.cell? p1 = some v1) (y2 : u.cell? p2 = some v2) (y3 : u.cell? p3 = some v3) : u.drew.cell? p0 = some v0 ∧ u.drew.cell? p1 = some v1 ∧ u.drew.cell? p2 = some v2 ∧ u.drew.cell? p3 = some v3 ∧ Below u.heap.size u u.drew :=
  ⟨y0, y1, y2, y3, (Below.refl _ _).drew⟩

theorem keep0c4_later {u w' w'' : World} {p0 p1 p2 p3 : Addr} {v0 v1 v2 v3 : Value} (y0 : u.cell? p0 = some v0) (y1 : u.cell? p1 = some v1) (y2 : u.cell? p2 = some v2) (y3 : u.cell? p3 = some v3) (h : w'.cell? p0 = some v0 ∧ w'.cell? p1 = some v1 ∧ w'.cell? p2 = some v2 ∧ w'.cell? p3 = some v3 ∧ Below u.heap.size u w') (b : Below w'.heap.size w' w'') : w''.cell? p0 = some v0 ∧ w''.cell? p1 = some v1 ∧ w''.cell? p2 = some v2 ∧ w''.cell? p3 = some v3 ∧ Below u.heap.size u w'' := by
  have B := h.2.2.2.2.trans (b.mono h.2.2.2.2.size)
  exact ⟨(cell_on y0 B), (cell_on y1 B), (cell_on y2 B), (cell_on y3 B), B⟩

end Go.Proofs.Ytedfbaeajofmnaa

end
