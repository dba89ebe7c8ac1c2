/- What a call gives back in lists of floats: of its own, or such as can be read. Conditions: none beyond those of each theorem. -/
import Derived.Test.YtabhjnpmmjmaiabKit
namespace Go.Proofs.Ytabhjnpmmjmaiab
open Go Ieee Go.RowKit
set_option linter.unusedVariables false

/-- a list up to the bits of its NaNs -/
def cl (xs : List Nat) : List (Option Nat) := xs.map (canon .f32)

theorem cl_length (xs : List Nat) : (cl xs).length = xs.length := List.length_map ..

/-- these are the numbers of a model's list -/
structure Is (ys : List Nat) (m : List (Option Nat)) : Prop where
  eq : cl ys = m
  lt : ∀ y ∈ ys, y < 2 ^ 32
  few : ys.length ≤ 256

theorem Is.nil : Is [] [] := ⟨rfl, (fun _ h => by cases h), (by decide)⟩

theorem Is.refl {ys : List Nat} (h : ∀ y ∈ ys, y < 2 ^ 32) (n : ys.length ≤ 256) : Is ys (cl ys) := ⟨rfl, h, n⟩

theorem Is.same {ys zs : List Nat} {m : List (Option Nat)} (h : Is ys m) (k : Is zs m) : SameF ys zs := by
  have e : cl ys = cl zs := h.eq.trans k.eq.symm
  refine ⟨by rw [← cl_length ys, e, cl_length], h.lt, k.lt, fun i hi hj => ?_⟩
  have := congrArg (·[i]?) e
  unfold cl at this
  simpa [hi, hj] using this

theorem nil_own (w : World) (B : Nat) : OwnV w B none (fvals []) := .inl ⟨rfl, rfl⟩
theorem nil_row (w : World) : RowV w none (fvals []) := fun i u h => by cases h

theorem grown_drew (u : World) (r : Option Nat) : u.grownBy u.drew r := ⟨rfl, rfl, rfl, Nat.le_refl _, fun _ _ _ => rfl⟩

theorem grown_next {u w' w'' : World} {r : Option Nat} (h : u.grownBy w' r) (b : Below w'.heap.size w' w'') : u.grownBy w'' r :=
  ⟨b.os.trans h.os, b.tape.trans h.tape, b.output.trans h.output, Nat.le_trans h.size b.size, fun k hk hr => (b.block k (Nat.lt_of_lt_of_le hk h.size)).trans (h.block k hk hr)⟩

structure GotField (B : Nat) (w w' : World) (m0 m1 m2 : List (Option Nat)) (a0 a1 a2 : Option Addr) (y0 y1 y2 : List Nat) : Prop where
  o0 : OwnV w' B a0 (fvals y0)
  o1 : OwnV w' B a1 (fvals y1)
  o2 : OwnV w' B a2 (fvals y2)
  p01 : Apart a0 a1
  p02 : Apart a0 a2
  p12 : Apart a1 a2
  s0 : Is y0 m0
  s1 : Is y1 m1
  s2 : Is y2 m2
  below : Below B w w'

structure HasField (w w' : World) (m0 m1 m2 : List (Option Nat)) (a0 a1 a2 : Option Addr) (y0 y1 y2 : List Nat) : Prop where
  o0 : RowV w' a0 (fvals y0)
  o1 : RowV w' a1 (fvals y1)
  o2 : RowV w' a2 (fvals y2)
  s0 : Is y0 m0
  s1 : Is y1 m1
  s2 : Is y2 m2
  below : Below w.heap.size w w'

theorem GotField.none {B : Nat} {w w' : World} (b : Below B w w') : GotField B w w' [] [] [] none none none [] [] [] := ⟨nil_own _ _, nil_own _ _, nil_own _ _, Apart.nil _, Apart.nil _, Apart.nil _, Is.nil, Is.nil, Is.nil, b⟩
theorem HasField.none {w w' : World} (b : Below w.heap.size w w') : HasField w w' [] [] [] none none none [] [] [] := ⟨nil_row _, nil_row _, nil_row _, Is.nil, Is.nil, Is.nil, b⟩

structure GotSheet (B : Nat) (w w' : World) (m0 m1 : List (Option Nat)) (a0 a1 : Option Addr) (y0 y1 : List Nat) : Prop where
  o0 : OwnV w' B a0 (fvals y0)
  o1 : OwnV w' B a1 (fvals y1)
  p01 : Apart a0 a1
  s0 : Is y0 m0
  s1 : Is y1 m1
  below : Below B w w'

structure HasSheet (w w' : World) (m0 m1 : List (Option Nat)) (a0 a1 : Option Addr) (y0 y1 : List Nat) : Prop where
  o0 : RowV w' a0 (fvals y0)
  o1 : RowV w' a1 (fvals y1)
  s0 : Is y0 m0
  s1 : Is y1 m1
  below : Below w.heap.size w w'

theorem GotSheet.none {B : Nat} {w w' : World} (b : Below B w w') : GotSheet B w w' [] [] none none [] [] := ⟨nil_own _ _, nil_own _ _, Apart.nil _, Is.nil, Is.nil, b⟩
theorem HasSheet.none {w w' : World} (b : Below w.heap.size w w') : HasSheet w w' [] [] none none [] [] := ⟨nil_row _, nil_row _, Is.nil, Is.nil, b⟩

theorem ne_of_span {lo hi b : Nat} {a : Option Addr} (h : Span lo hi a) (hb : b < lo ∨ hi ≤ b) : ∀ x, a = some x → x.block ≠ b := fun x hx => by
  have := h x hx
  omega

theorem grown_set1 {u w' : World} {R : Nat} (h : u.grownBy w' (some R)) (i : Nat) (v : Value) : u.grownBy (w'.setCell ⟨R, i, none⟩ v) (some R) := grown_set h i v

theorem keepR1_start {u : World} {R : Nat} {g0 : Nat} {c0 : Array Value} {t0 : TypeId} (x0 : Blk u g0 c0 t0) : (∀ i, u.drew.cell? ⟨g0, i, none⟩ = c0[i]?) ∧ u.grownBy u.drew (some R) := ⟨x0.open.1, grown_drew _ _⟩
theorem keepR1_later {u w' w'' : World} {R : Nat} {g0 : Nat} {c0 : Array Value} {t0 : TypeId} (x0 : Blk u g0 c0 t0) (e0 : g0 ≠ R) (h : (∀ i, w'.cell? ⟨g0, i, none⟩ = c0[i]?) ∧ u.grownBy w' (some R)) (b : Below w'.heap.size w' w'') : (∀ i, w''.cell? ⟨g0, i, none⟩ = c0[i]?) ∧ u.grownBy w'' (some R) := by
  have B := grown_next h.2 b
  exact ⟨(x0.grown B (fun h => e0 (Option.some.inj h))).open.1, B⟩
theorem keepR1_now {u w'' : World} {R : Nat} {g0 : Nat} {c0 : Array Value} {t0 : TypeId} (x0 : Blk u g0 c0 t0) (e0 : g0 ≠ R) (B : u.grownBy w'' (some R)) : (∀ i, w''.cell? ⟨g0, i, none⟩ = c0[i]?) ∧ u.grownBy w'' (some R) := ⟨(x0.grown B (fun h => e0 (Option.some.inj h))).open.1, B⟩

theorem keepR1_set1 {u w' : World} {R : Nat} {g0 : Nat} {c0 : Array Value} {t0 : TypeId} (x0 : Blk u g0 c0 t0) (e0 : g0 ≠ R) (h : (∀ i, w'.cell? ⟨g0, i, none⟩ = c0[i]?) ∧ u.grownBy w' (some R)) (v0 : Value) : (∀ i, (w'.setCell ⟨R, 0, none⟩ v0).cell? ⟨g0, i, none⟩ = c0[i]?) ∧ u.grownBy (w'.setCell ⟨R, 0, none⟩ v0) (some R) := keepR1_now x0 e0 (grown_set1 h.2 _ _)
theorem keepR1_set2 {u w' : World} {R : Nat} {g0 : Nat} {c0 : Array Value} {t0 : TypeId} (x0 : Blk u g0 c0 t0) (e0 : g0 ≠ R) (h : (∀ i, w'.cell? ⟨g0, i, none⟩ = c0[i]?) ∧ u.grownBy w' (some R)) (v0 v1 : Value) : (∀ i, ((w'.setCell ⟨R, 0, none⟩ v0).setCell ⟨R, 1, none⟩ v1).cell? ⟨g0, i, none⟩ = c0[i]?) ∧ u.grownBy ((w'.setCell ⟨R, 0, none⟩ v0).setCell ⟨R, 1, none⟩ v1) (some R) := keepR1_now x0 e0 (grown_set1 (grown_set1 h.2 _ _) _ _)
theorem keepR1_set3 {u w' : World} {R : Nat} {g0 : Nat} {c0 : Array Value} {t0 : TypeId} (x0 : Blk u g0 c0 t0) (e0 : g0 ≠ R) (h : (∀ i, w'.cell? ⟨g0, i, none⟩ = c0[i]?) ∧ u.grownBy w' (some R)) (v0 v1 v2 : Value) : (∀ i, (((w'.setCell ⟨R, 0, none⟩ v0).setCell ⟨R, 1, none⟩ v1).setCell ⟨R, 2, none⟩ v2).cell? ⟨g0, i, none⟩ = c0[i]?) ∧ u.grownBy (((w'.setCell ⟨R, 0, none⟩ v0).setCell ⟨R, 1, none⟩ v1).setCell ⟨R, 2, none⟩ v2) (some R) := keepR1_now x0 e0 (grown_set1 (grown_set1 (grown_set1 h.2 _ _) _ _) _ _)
theorem keepR1_set5 {u w' : World} {R : Nat} {g0 : Nat} {c0 : Array Value} {t0 : TypeId} (x0 : Blk u g0 c0 t0) (e0 : g0 ≠ R) (h : (∀ i, w'.cell? ⟨g0, i, none⟩ = c0[i]?) ∧ u.grownBy w' (some R)) (v0 v1 v2 v3 v4 : Value) : (∀ i, (((((w'.setCell ⟨R, 0, none⟩ v0).setCell ⟨R, 1, none⟩ v1).setCell ⟨R, 2, none⟩ v2).setCell ⟨R, 3, none⟩ v3).setCell ⟨R, 4, none⟩ v4).cell? ⟨g0, i, none⟩ = c0[i]?) ∧ u.grownBy (((((w'.setCell ⟨R, 0, none⟩ v0).setCell ⟨R, 1, none⟩ v1).setCell ⟨R, 2, none⟩ v2).setCell ⟨R, 3, none⟩ v3).setCell ⟨R, 4, none⟩ v4) (some R) := keepR1_now x0 e0 (grown_set1 (grown_set1 (grown_set1 (grown_set1 (grown_set1 h.2 _ _) _ _) _ _) _ _) _ _)
theorem keepR2_start {u : World} {R : Nat} {g0 g1 : Nat} {c0 c1 : Array Value} {t0 t1 : TypeId} (x0 : Blk u g0 c0 t0) (x1 : Blk u g1 c1 t1) : (∀ i, u.drew.cell? ⟨g0, i, none⟩ = c0[i]?) ∧ (∀ i, u.drew.cell? ⟨g1, i, none⟩ = c1[i]?) ∧ u.grownBy u.drew (some R) := ⟨x0.open.1, x1.open.1, grown_drew _ _⟩
theorem keepR2_later {u w' w'' : World} {R : Nat} {g0 g1 : Nat} {c0 c1 : Array Value} {t0 t1 : TypeId} (x0 : Blk u g0 c0 t0) (x1 : Blk u g1 c1 t1) (e0 : g0 ≠ R) (e1 : g1 ≠ R) (h : (∀ i, w'.cell? ⟨g0, i, none⟩ = c0[i]?) ∧ (∀ i, w'.cell? ⟨g1, i, none⟩ = c1[i]?) ∧ u.grownBy w' (some R)) (b : Below w'.heap.size w' w'') : (∀ i, w''.cell? ⟨g0, i, none⟩ = c0[i]?) ∧ (∀ i, w''.cell? ⟨g1, i, none⟩ = c1[i]?) ∧ u.grownBy w'' (some R) := by
  have B := grown_next h.2.2 b
  exact ⟨(x0.grown B (fun h => e0 (Option.some.inj h))).open.1, (x1.grown B (fun h => e1 (Option.some.inj h))).open.1, B⟩
theorem keepR2_now {u w'' : World} {R : Nat} {g0 g1 : Nat} {c0 c1 : Array Value} {t0 t1 : TypeId} (x0 : Blk u g0 c0 t0) (x1 : Blk u g1 c1 t1) (e0 : g0 ≠ R) (e1 : g1 ≠ R) (B : u.grownBy w'' (some R)) : (∀ i, w''.cell? ⟨g0, i, none⟩ = c0[i]?) ∧ (∀ i, w''.cell? ⟨g1, i, none⟩ = c1[i]?) ∧ u.grownBy w'' (some R) := ⟨(x0.grown B (fun h => e0 (Option.some.inj h))).open.1, (x1.grown B (fun h => e1 (Option.some.inj h))).open.1, B⟩

theorem keepR2_set1 {u w' : World} {R : Nat} {g0 g1 : Nat} {c0 c1 : Array Value} {t0 t1 : TypeId} (x0 : Blk u g0 c0 t0) (x1 : Blk u g1 c1 t1) (e0 : g0 ≠ R) (e1 : g1 ≠ R) (h : (∀ i, w'.cell? ⟨g0, i, none⟩ = c0[i]?) ∧ (∀ i, w'.cell? ⟨g1, i, none⟩ = c1[i]?) ∧ u.grownBy w' (some R)) (v0 : Value) : (∀ i, (w'.setCell ⟨R, 0, none⟩ v0).cell? ⟨g0, i, none⟩ = c0[i]?) ∧ (∀ i, (w'.setCell ⟨R, 0, none⟩ v0).cell? ⟨g1, i, none⟩ = c1[i]?) ∧ u.grownBy (w'.setCell ⟨R, 0, none⟩ v0) (some R) := keepR2_now x0 x1 e0 e1 (grown_set1 h.2.2 _ _)
theorem keepR2_set2 {u w' : World} {R : Nat} {g0 g1 : Nat} {c0 c1 : Array Value} {t0 t1 : TypeId} (x0 : Blk u g0 c0 t0) (x1 : Blk u g1 c1 t1) (e0 : g0 ≠ R) (e1 : g1 ≠ R) (h : (∀ i, w'.cell? ⟨g0, i, none⟩ = c0[i]?) ∧ (∀ i, w'.cell? ⟨g1, i, none⟩ = c1[i]?) ∧ u.grownBy w' (some R)) (v0 v1 : Value) : (∀ i, ((w'.setCell ⟨R, 0, none⟩ v0).setCell ⟨R, 1, none⟩ v1).cell? ⟨g0, i, none⟩ = c0[i]?) ∧ (∀ i, ((w'.setCell ⟨R, 0, none⟩ v0).setCell ⟨R, 1, none⟩ v1).cell? ⟨g1, i, none⟩ = c1[i]?) ∧ u.grownBy ((w'.setCell ⟨R, 0, none⟩ v0).setCell ⟨R, 1, none⟩ v1) (some R) := keepR2_now x0 x1 e0 e1 (grown_set1 (grown_set1 h.2.2 _ _) _ _)
theorem keepR2_set3 {u w' : World} {R : Nat} {g0 g1 : Nat} {c0 c1 : Array Value} {t0 t1 : TypeId} (x0 : Blk u g0 c0 t0) (x1 : Blk u g1 c1 t1) (e0 : g0 ≠ R) (e1 : g1 ≠ R) (h : (∀ i, w'.cell? ⟨g0, i, none⟩ = c0[i]?) ∧ (∀ i, w'.cell? ⟨g1, i, none⟩ = c1[i]?) ∧ u.grownBy w' (some R)) (v0 v1 v2 : Value) : (∀ i, (((w'.setCell ⟨R, 0, none⟩ v0).setCell ⟨R, 1, none⟩ v1).setCell ⟨R, 2, none⟩ v2).cell? ⟨g0, i, none⟩ = c0[i]?) ∧ (∀ i, (((w'.setCell ⟨R, 0, none⟩ v0).setCell ⟨R, 1, none⟩ v1).setCell ⟨R, 2, none⟩ v2).cell? ⟨g1, i, none⟩ = c1[i]?) ∧ u.grownBy (((w'.setCell ⟨R, 0, none⟩ v0).setCell ⟨R, 1, none⟩ v1).setCell ⟨R, 2, none⟩ v2) (some R) := keepR2_now x0 x1 e0 e1 (grown_set1 (grown_set1 (grown_set1 h.2.2 _ _) _ _) _ _)
theorem keepR2_set5 {u w' : World} {R : Nat} {g0 g1 : Nat} {c0 c1 : Array Value} {t0 t1 : TypeId} (x0 : Blk u g0 c0 t0) (x1 : Blk u g1 c1 t1) (e0 : g0 ≠ R) (e1 : g1 ≠ R) (h : (∀ i, w'.cell? ⟨g0, i, none⟩ = c0[i]?) ∧ (∀ i, w'.cell? ⟨g1, i, none⟩ = c1[i]?) ∧ u.grownBy w' (some R)) (v0 v1 v2 v3 v4 : Value) : (∀ i, (((((w'.setCell ⟨R, 0, none⟩ v0).setCell ⟨R, 1, none⟩ v1).setCell ⟨R, 2, none⟩ v2).setCell ⟨R, 3, none⟩ v3).setCell ⟨R, 4, none⟩ v4).cell? ⟨g0, i, none⟩ = c0[i]?) ∧ (∀ i, (((((w'.setCell ⟨R, 0, none⟩ v0).setCell ⟨R, 1, none⟩ v1).setCell ⟨R, 2, none⟩ v2).setCell ⟨R, 3, none⟩ v3).setCell ⟨R, 4, none⟩ v4).cell? ⟨g1, i, none⟩ = c1[i]?) ∧ u.grownBy (((((w'.setCell ⟨R, 0, none⟩ v0).setCell ⟨R, 1, none⟩ v1).setCell ⟨R, 2, none⟩ v2).setCell ⟨R, 3, none⟩ v3).setCell ⟨R, 4, none⟩ v4) (some R) := keepR2_now x0 x1 e0 e1 (grown_set1 (grown_set1 (grown_set1 (grown_set1 (grown_set1 h.2.2 _ _) _ _) _ _) _ _) _ _)
theorem keepR3_start {u : World} {R : Nat} {g0 g1 g2 : Nat} {c0 c1 c2 : Array Value} {t0 t1 t2 : TypeId} (x0 : Blk u g0 c0 t0) (x1 : Blk u g1 c1 t1) (x2 : Blk u g2 c2 t2) : (∀ i, u.drew.cell? ⟨g0, i, none⟩ = c0[i]?) ∧ (∀ i, u.drew.cell? ⟨g1, i, none⟩ = c1[i]?) ∧ (∀ i, u.drew.cell? ⟨g2, i, none⟩ = c2[i]?) ∧ u.grownBy u.drew (some R) := ⟨x0.open.1, x1.open.1, x2.open.1, grown_drew _ _⟩
theorem keepR3_later {u w' w'' : World} {R : Nat} {g0 g1 g2 : Nat} {c0 c1 c2 : Array Value} {t0 t1 t2 : TypeId} (x0 : Blk u g0 c0 t0) (x1 : Blk u g1 c1 t1) (x2 : Blk u g2 c2 t2) (e0 : g0 ≠ R) (e1 : g1 ≠ R) (e2 : g2 ≠ R) (h : (∀ i, w'.cell? ⟨g0, i, none⟩ = c0[i]?) ∧ (∀ i, w'.cell? ⟨g1, i, none⟩ = c1[i]?) ∧ (∀ i, w'.cell? ⟨g2, i, none⟩ = c2[i]?) ∧ u.grownBy w' (some R)) (b : Below w'.heap.size w' w'') : (∀ i, w''.cell? ⟨g0, i, none⟩ = c0[i]?) ∧ (∀ i, w''.cell? ⟨g1, i, none⟩ = c1[i]?) ∧ (∀ i, w''.cell? ⟨g2, i, none⟩ = c2[i]?) ∧ u.grownBy w'' (some R) := by
  have B := grown_next h.2.2.2 b
  exact ⟨(x0.grown B (fun h => e0 (Option.some.inj h))).open.1, (x1.grown B (fun h => e1 (Option.some.inj h))).open.1, (x2.grown B (fun h => e2 (Option.some.inj h))).open.1, B⟩
theorem keepR3_now {u w'' : World} {R : Nat} {g0 g1 g2 : Nat} {c0 c1 c2 : Array Value} {t0 t1 t2 : TypeId} (x0 : Blk u g0 c0 t0) (x1 : Blk u g1 c1 t1) (x2 : Blk u g2 c2 t2) (e0 : g0 ≠ R) (e1 : g1 ≠ R) (e2 : g2 ≠ R) (B : u.grownBy w'' (some R)) : (∀ i, w''.cell? ⟨g0, i, none⟩ = c0[i]?) ∧ (∀ i, w''.cell? ⟨g1, i, none⟩ = c1[i]?) ∧ (∀ i, w''.cell? ⟨g2, i, none⟩ = c2[i]?) ∧ u.grownBy w'' (some R) := ⟨(x0.grown B (fun h => e0 (Option.some.inj h))).open.1, (x1.grown B (fun h => e1 (Option.some.inj h))).open.1, (x2.grown B (fun h => e2 (Option.some.inj h))).open.1, B⟩

theorem keepR3_set1 {u w' : World} {R : Nat} {g0 g1 g2 : Nat} {c0 c1 c2 : Array Value} {t0 t1 t2 : TypeId} (x0 : Blk u g0 c0 t0) (x1 : Blk u g1 c1 t1) (x2 : Blk u g2 c2 t2) (e0 : g0 ≠ R) (e1 : g1 ≠ R) (e2 : g2 ≠ R) (h : (∀ i, w'.cell? ⟨g0, i, none⟩ = c0[i]?) ∧ (∀ i, w'.cell? ⟨g1, i, none⟩ = c1[i]?) ∧ (∀ i, w'.cell? ⟨g2, i, none⟩ = c2[i]?) ∧ u.grownBy w' (some R)) (v0 : Value) : (∀ i, (w'.setCell ⟨R, 0, none⟩ v0).cell? ⟨g0, i, none⟩ = c0[i]?) ∧ (∀ i, (w'.setCell ⟨R, 0, none⟩ v0).cell? ⟨g1, i, none⟩ = c1[i]?) ∧ (∀ i, (w'.setCell ⟨R, 0, none⟩ v0).cell? ⟨g2, i, none⟩ = c2[i]?) ∧ u.grownBy (w'.setCell ⟨R, 0, none⟩ v0) (some R) := keepR3_now x0 x1 x2 e0 e1 e2 (grown_set1 h.2.2.2 _ _)
theorem keepR3_set2 {u w' : World} {R : Nat} {g0 g1 g2 : Nat} {c0 c1 c2 : Array Value} {t0 t1 t2 : TypeId} (x0 : Blk u g0 c0 t0) (x1 : Blk u g1 c1 t1) (x2 : Blk u g2 c2 t2) (e0 : g0 ≠ R) (e1 : g1 ≠ R) (e2 : g2 ≠ R) (h : (∀ i, w'.cell? ⟨g0, i, none⟩ = c0[i]?) ∧ (∀ i, w'.cell? ⟨g1, i, none⟩ = c1[i]?) ∧ (∀ i, w'.cell? ⟨g2, i, none⟩ = c2[i]?) ∧ u.grownBy w' (some R)) (v0 v1 : Value) : (∀ i, ((w'.setCell ⟨R, 0, none⟩ v0).setCell ⟨R, 1, none⟩ v1).cell? ⟨g0, i, none⟩ = c0[i]?) ∧ (∀ i, ((w'.setCell ⟨R, 0, none⟩ v0).setCell ⟨R, 1, none⟩ v1).cell? ⟨g1, i, none⟩ = c1[i]?) ∧ (∀ i, ((w'.setCell ⟨R, 0, none⟩ v0).setCell ⟨R, 1, none⟩ v1).cell? ⟨g2, i, none⟩ = c2[i]?) ∧ u.grownBy ((w'.setCell ⟨R, 0, none⟩ v0).setCell ⟨R, 1, none⟩ v1) (some R) := keepR3_now x0 x1 x2 e0 e1 e2 (grown_set1 (grown_set1 h.2.2.2 _ _) _ _)
theorem keepR3_set3 {u w' : World} {R : Nat} {g0 g1 g2 : Nat} {c0 c1 c2 : Array Value} {t0 t1 t2 : TypeId} (x0 : Blk u g0 c0 t0) (x1 : Blk u g1 c1 t1) (x2 : Blk u g2 c2 t2) (e0 : g0 ≠ R) (e1 : g1 ≠ R) (e2 : g2 ≠ R) (h : (∀ i, w'.cell? ⟨g0, i, none⟩ = c0[i]?) ∧ (∀ i, w'.cell? ⟨g1, i, none⟩ = c1[i]?) ∧ (∀ i, w'.cell? ⟨g2, i, none⟩ = c2[i]?) ∧ u.grownBy w' (some R)) (v0 v1 v2 : Value) : (∀ i, (((w'.setCell ⟨R, 0, none⟩ v0).setCell ⟨R, 1, none⟩ v1).setCell ⟨R, 2, none⟩ v2).cell? ⟨g0, i, none⟩ = c0[i]?) ∧ (∀ i, (((w'.setCell ⟨R, 0, none⟩ v0).setCell ⟨R, 1, none⟩ v1).setCell ⟨R, 2, none⟩ v2).cell? ⟨g1, i, none⟩ = c1[i]?) ∧ (∀ i, (((w'.setCell ⟨R, 0, none⟩ v0).setCell ⟨R, 1, none⟩ v1).setCell ⟨R, 2, none⟩ v2).cell? ⟨g2, i, none⟩ = c2[i]?) ∧ u.grownBy (((w'.setCell ⟨R, 0, none⟩ v0).setCell ⟨R, 1, none⟩ v1).setCell ⟨R, 2, none⟩ v2) (some R) := keepR3_now x0 x1 x2 e0 e1 e2 (grown_set1 (grown_set1 (grown_set1 h.2.2.2 _ _) _ _) _ _)
theorem keepR3_set5 {u w' : World} {R : Nat} {g0 g1 g2 : Nat} {c0 c1 c2 : Array Value} {t0 t1 t2 : TypeId} (x0 : Blk u g0 c0 t0) (x1 : Blk u g1 c1 t1) (x2 : Blk u g2 c2 t2) (e0 : g0 ≠ R) (e1 : g1 ≠ R) (e2 : g2 ≠ R) (h : (∀ i, w'.cell? ⟨g0, i, none⟩ = c0[i]?) ∧ (∀ i, w'.cell? ⟨g1, i, none⟩ = c1[i]?) ∧ (∀ i, w'.cell? ⟨g2, i, none⟩ = c2[i]?) ∧ u.grownBy w' (some R)) (v0 v1 v2 v3 v4 : Value) : (∀ i, (((((w'.setCell ⟨R, 0, none⟩ v0).setCell ⟨R, 1, none⟩ v1).setCell ⟨R, 2, none⟩ v2).setCell ⟨R, 3, none⟩ v3).setCell ⟨R, 4, none⟩ v4).cell? ⟨g0, i, none⟩ = c0[i]?) ∧ (∀ i, (((((w'.setCell ⟨R, 0, none⟩ v0).setCell ⟨R, 1, none⟩ v1).setCell ⟨R, 2, none⟩ v2).setCell ⟨R, 3, none⟩ v3).setCell ⟨R, 4, none⟩ v4).cell? ⟨g1, i, none⟩ = c1[i]?) ∧ (∀ i, (((((w'.setCell ⟨R, 0, none⟩ v0).setCell ⟨R, 1, none⟩ v1).setCell ⟨R, 2, none⟩ v2).setCell ⟨R, 3, none⟩ v3).setCell ⟨R, 4, none⟩ v4).cell? ⟨g2, i, none⟩ = c2[i]?) ∧ u.grownBy (((((w'.setCell ⟨R, 0, none⟩ v0).setCell ⟨R, 1, none⟩ v1).setCell ⟨R, 2, none⟩ v2).setCell ⟨R, 3, none⟩ v3).setCell ⟨R, 4, none⟩ v4) (some R) := keepR3_now x0 x1 x2 e0 e1 e2 (grown_set1 (grown_set1 (grown_set1 (grown_set1 (grown_set1 h.2.2.2 _ _) _ _) _ _) _ _) _ _)
end Go.Proofs.Ytabhjnpmmjmaiab
