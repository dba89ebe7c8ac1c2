/- What the walks of the laws carry from world to world: boxes and lists. Conditions: none beyond those of each theorem. -/
import Derived.Test.YtabhjnpmmjmaiabHeld
namespace Go.Proofs.Ytabhjnpmmjmaiab
open Go Ieee Go.RowKit

theorem below_new (u : World) (o : Obj) : Below u.heap.size u (u.alloc o) := (Below.refl _ _).alloc (Nat.le_refl _) _

/-- a box reads as it was in a later world -/
theorem Blk.cells {u w' : World} {g : Nat} {cs : Array Value} {t : TypeId} (x : Blk u g cs t) (b : Below u.heap.size u w') : ∀ i, w'.cell? ⟨g, i, none⟩ = cs[i]? := (x.below b x.lt).open.1

theorem below_drew (u : World) : Below u.heap.size u u.drew := (Below.refl _ _).drew

theorem below_next {u w' w'' : World} (h : Below u.heap.size u w') (b : Below w'.heap.size w' w'') : Below u.heap.size u w'' := h.trans (b.mono h.size)

theorem below_set {u w' : World} (h : Below u.heap.size u w') (p : Addr) (hp : u.heap.size ≤ p.block) (v : Value) : Below u.heap.size u (w'.setCell p v) := h.setCell hp v

/-- all that a place can be: below a bound, or from one on -/
def Span (lo hi : Nat) (a : Option Addr) : Prop := ∀ x, a = some x → lo ≤ x.block ∧ x.block < hi

theorem OwnV.span {w : World} {B : Nat} {a : Option Addr} {vs : List Value} (h : OwnV w B a vs) : Span B w.heap.size a := by
  intro x hx
  rcases h with ⟨rfl, _⟩ | ⟨g, cs, e, rfl, hg, hc, _⟩
  · cases hx
  · cases hx; exact ⟨hg, hc.lt⟩

theorem Span.ne {lo hi j : Nat} {a : Option Addr} (h : Span lo hi a) (hj : j < lo ∨ hi ≤ j) : some j ≠ blockOf a := by
  intro e
  cases a with
  | none => cases e
  | some x =>
    have := h x rfl
    unfold blockOf at e
    simp only [Option.map_some, Option.some.injEq] at e
    omega

theorem Span.apart {lo hi lo' hi' : Nat} {a b : Option Addr} (h : Span lo hi a) (k : Span lo' hi' b) (hh : hi ≤ lo' ∨ hi' ≤ lo) : Apart a b := fun x y hx hy => by
  have := h x hx
  have := k y hy
  omega

/-- blocks outside a range are as they were -/
def Out (w w' : World) (lo hi : Nat) : Prop := w.heap.size ≤ w'.heap.size ∧ ∀ j, j < w.heap.size → (j < lo ∨ hi ≤ j) → w'.heap[j]? = w.heap[j]?

theorem Blk.out {w w' : World} {g lo hi : Nat} {cs : Array Value} {t : TypeId} (h : Blk w g cs t) (o : Out w w' lo hi) (hg : g < lo ∨ hi ≤ g) : Blk w' g cs t := (o.2 g h.lt hg).trans h

theorem OwnV.outside {w w' : World} {B lo hi l k : Nat} {a : Option Addr} {vs : List Value} (h : OwnV w B a vs) (o : Out w w' lo hi) (hs : Span l k a) (hd : k ≤ lo ∨ hi ≤ l) : OwnV w' B a vs := by
  rcases h with h | ⟨g, cs, e, rfl, hg, hc, hv⟩
  · exact .inl h
  · exact .inr ⟨g, cs, e, rfl, hg, hc.out o (by have := hs _ rfl; dsimp only at this; omega), hv⟩

/-- a list lies below a bound -/
def Low (a : Option Addr) (vs : List Value) (hi : Nat) : Prop := ∀ x, a = some x → vs ≠ [] → x.block < hi

theorem RowV.low {w : World} {a : Option Addr} {vs : List Value} (h : RowV w a vs) : Low a vs w.heap.size := h.block_lt

theorem RowV.outside {w w' : World} {lo hi k : Nat} {a : Option Addr} {vs : List Value} (h : RowV w a vs) (o : Out w w' lo hi) (hs : Low a vs k) (hd : k ≤ lo) : RowV w' a vs := by
  intro i u hu
  obtain ⟨b, off, rfl, hc⟩ := h i u hu
  have hne : vs ≠ [] := by intro e; rw [e] at hu; cases hu
  have := hs _ rfl hne
  dsimp only at this
  refine ⟨b, off, rfl, ?_⟩
  rw [World.cell?_of_block (w := w) (w' := w') (a := ⟨b, off + i, none⟩) (o.2 b (lt_of_cell hc) (by omega))]
  exact hc

theorem row_held1 {w u w' : World} {a : Option Addr} {vs : List Value} {A : Prop} (h : RowV w a vs) (hu : Below w.heap.size w u) (k : A ∧ Below u.heap.size u w') : RowV w' a vs := h.later (hu.trans (k.2.mono hu.size))
theorem row_held2 {w u w' : World} {a : Option Addr} {vs : List Value} {A B : Prop} (h : RowV w a vs) (hu : Below w.heap.size w u) (k : A ∧ B ∧ Below u.heap.size u w') : RowV w' a vs := h.later (hu.trans (k.2.2.mono hu.size))
theorem row_held3 {w u w' : World} {a : Option Addr} {vs : List Value} {A B C : Prop} (h : RowV w a vs) (hu : Below w.heap.size w u) (k : A ∧ B ∧ C ∧ Below u.heap.size u w') : RowV w' a vs := h.later (hu.trans (k.2.2.2.mono hu.size))

theorem cell_on {u w' : World} {p : Addr} {v : Value} (h : u.cell? p = some v) (b : Below u.heap.size u w') : w'.cell? p = some v := by
  rw [Below.cell b (lt_of_cell h)]; exact h

theorem keep0c1_start {u : World} {p0 : Addr} {v0 : Value} (y0 : u.cell? p0 = some v0) : u.drew.cell? p0 = some v0 ∧ Below u.heap.size u u.drew :=
  ⟨y0, (Below.refl _ _).drew⟩

theorem keep0c1_later {u w' w'' : World} {p0 : Addr} {v0 : Value} (y0 : u.cell? p0 = some v0) (h : w'.cell? p0 = some v0 ∧ Below u.heap.size u w') (b : Below w'.heap.size w' w'') : w''.cell? p0 = some v0 ∧ Below u.heap.size u w'' := by
  have B := h.2.trans (b.mono h.2.size)
  exact ⟨(cell_on y0 B), B⟩

theorem keep0c1_set {u w' : World} {p0 : Addr} {v0 : Value} (y0 : u.cell? p0 = some v0) (h : w'.cell? p0 = some v0 ∧ Below u.heap.size u w') (p : Addr) (v : Value) (hp : u.heap.size ≤ p.block) : (w'.setCell p v).cell? p0 = some v0 ∧ Below u.heap.size u (w'.setCell p v) := by
  have B := h.2.setCell hp v
  exact ⟨(cell_on y0 B), B⟩

theorem keep0c2_start {u : World} {p0 p1 : Addr} {v0 v1 : Value} (y0 : u.cell? p0 = some v0) (y1 : u.cell? p1 = some v1) : u.drew.cell? p0 = some v0 ∧ u.drew.cell? p1 = some v1 ∧ Below u.heap.size u u.drew :=
  ⟨y0, y1, (Below.refl _ _).drew⟩

theorem keep0c2_later {u w' w'' : World} {p0 p1 : Addr} {v0 v1 : Value} (y0 : u.cell? p0 = some v0) (y1 : u.cell? p1 = some v1) (h : w'.cell? p0 = some v0 ∧ w'.cell? p1 = some v1 ∧ Below u.heap.size u w') (b : Below w'.heap.size w' w'') : w''.cell? p0 = some v0 ∧ w''.cell? p1 = some v1 ∧ Below u.heap.size u w'' := by
  have B := h.2.2.trans (b.mono h.2.2.size)
  exact ⟨(cell_on y0 B), (cell_on y1 B), B⟩

theorem keep0c2_set {u w' : World} {p0 p1 : Addr} {v0 v1 : Value} (y0 : u.cell? p0 = some v0) (y1 : u.cell? p1 = some v1) (h : w'.cell? p0 = some v0 ∧ w'.cell? p1 = some v1 ∧ Below u.heap.size u w') (p : Addr) (v : Value) (hp : u.heap.size ≤ p.block) : (w'.setCell p v).cell? p0 = some v0 ∧ (w'.setCell p v).cell? p1 = some v1 ∧ Below u.heap.size u (w'.setCell p v) := by
  have B := h.2.2.setCell hp v
  exact ⟨(cell_on y0 B), (cell_on y1 B), B⟩

theorem keep0c3_start {u : World} {p0 p1 p2 : Addr} {v0 v1 v2 : Value} (y0 : u.cell? p0 = some v0) (y1 : u.cell? p1 = some v1) (y2 : u.cell? p2 = some v2) : u.drew.cell? p0 = some v0 ∧ u.drew.cell? p1 = some v1 ∧ u.drew.cell? p2 = some v2 ∧ Below u.heap.size u u.drew :=
  ⟨y0, y1, y2, (Below.refl _ _).drew⟩

theorem keep0c3_later {u w' w'' : World} {p0 p1 p2 : Addr} {v0 v1 v2 : Value} (y0 : u.cell? p0 = some v0) (y1 : u.cell? p1 = some v1) (y2 : u.cell? p2 = some v2) (h : w'.cell? p0 = some v0 ∧ w'.cell? p1 = some v1 ∧ w'.cell? p2 = some v2 ∧ Below u.heap.size u w') (b : Below w'.heap.size w' w'') : w''.cell? p0 = some v0 ∧ w''.cell? p1 = some v1 ∧ w''.cell? p2 = some v2 ∧ Below u.heap.size u w'' := by
  have B := h.2.2.2.trans (b.mono h.2.2.2.size)
  exact ⟨(cell_on y0 B), (cell_on y1 B), (cell_on y2 B), B⟩

theorem keep0c3_set {u w' : World} {p0 p1 p2 : Addr} {v0 v1 v2 : Value} (y0 : u.cell? p0 = some v0) (y1 : u.cell? p1 = some v1) (y2 : u.cell? p2 = some v2) (h : w'.cell? p0 = some v0 ∧ w'.cell? p1 = some v1 ∧ w'.cell? p2 = some v2 ∧ Below u.heap.size u w') (p : Addr) (v : Value) (hp : u.heap.size ≤ p.block) : (w'.setCell p v).cell? p0 = some v0 ∧ (w'.setCell p v).cell? p1 = some v1 ∧ (w'.setCell p v).cell? p2 = some v2 ∧ Below u.heap.size u (w'.setCell p v) := by
  have B := h.2.2.2.setCell hp v
  exact ⟨(cell_on y0 B), (cell_on y1 B), (cell_on y2 B), B⟩

theorem keep1_start {u : World} {g0 : Nat} {c0 : Array Value} {t0 : TypeId} (x0 : Blk u g0 c0 t0) : (∀ i, u.drew.cell? ⟨g0, i, none⟩ = c0[i]?) ∧ Below u.heap.size u u.drew :=
  ⟨x0.open.1, (Below.refl _ _).drew⟩

theorem keep1_later {u w' w'' : World} {g0 : Nat} {c0 : Array Value} {t0 : TypeId} (x0 : Blk u g0 c0 t0) (h : (∀ i, w'.cell? ⟨g0, i, none⟩ = c0[i]?) ∧ Below u.heap.size u w') (b : Below w'.heap.size w' w'') : (∀ i, w''.cell? ⟨g0, i, none⟩ = c0[i]?) ∧ Below u.heap.size u w'' := by
  have B := h.2.trans (b.mono h.2.size)
  exact ⟨(x0.below B x0.lt).open.1, B⟩

theorem keep1_set {u w' : World} {g0 : Nat} {c0 : Array Value} {t0 : TypeId} (x0 : Blk u g0 c0 t0) (h : (∀ i, w'.cell? ⟨g0, i, none⟩ = c0[i]?) ∧ Below u.heap.size u w') (p : Addr) (v : Value) (hp : u.heap.size ≤ p.block) : (∀ i, (w'.setCell p v).cell? ⟨g0, i, none⟩ = c0[i]?) ∧ Below u.heap.size u (w'.setCell p v) := by
  have B := h.2.setCell hp v
  exact ⟨(x0.below B x0.lt).open.1, B⟩

theorem keep1c1_start {u : World} {g0 : Nat} {c0 : Array Value} {t0 : TypeId} {p0 : Addr} {v0 : Value} (x0 : Blk u g0 c0 t0) (y0 : u.cell? p0 = some v0) : (∀ i, u.drew.cell? ⟨g0, i, none⟩ = c0[i]?) ∧ u.drew.cell? p0 = some v0 ∧ Below u.heap.size u u.drew :=
  ⟨x0.open.1, y0, (Below.refl _ _).drew⟩

theorem keep1c1_later {u w' w'' : World} {g0 : Nat} {c0 : Array Value} {t0 : TypeId} {p0 : Addr} {v0 : Value} (x0 : Blk u g0 c0 t0) (y0 : u.cell? p0 = some v0) (h : (∀ i, w'.cell? ⟨g0, i, none⟩ = c0[i]?) ∧ w'.cell? p0 = some v0 ∧ Below u.heap.size u w') (b : Below w'.heap.size w' w'') : (∀ i, w''.cell? ⟨g0, i, none⟩ = c0[i]?) ∧ w''.cell? p0 = some v0 ∧ Below u.heap.size u w'' := by
  have B := h.2.2.trans (b.mono h.2.2.size)
  exact ⟨(x0.below B x0.lt).open.1, (cell_on y0 B), B⟩

theorem keep1c1_set {u w' : World} {g0 : Nat} {c0 : Array Value} {t0 : TypeId} {p0 : Addr} {v0 : Value} (x0 : Blk u g0 c0 t0) (y0 : u.cell? p0 = some v0) (h : (∀ i, w'.cell? ⟨g0, i, none⟩ = c0[i]?) ∧ w'.cell? p0 = some v0 ∧ Below u.heap.size u w') (p : Addr) (v : Value) (hp : u.heap.size ≤ p.block) : (∀ i, (w'.setCell p v).cell? ⟨g0, i, none⟩ = c0[i]?) ∧ (w'.setCell p v).cell? p0 = some v0 ∧ Below u.heap.size u (w'.setCell p v) := by
  have B := h.2.2.setCell hp v
  exact ⟨(x0.below B x0.lt).open.1, (cell_on y0 B), B⟩

theorem keep1c2_start {u : World} {g0 : Nat} {c0 : Array Value} {t0 : TypeId} {p0 p1 : Addr} {v0 v1 : Value} (x0 : Blk u g0 c0 t0) (y0 : u.cell? p0 = some v0) (y1 : u.cell? p1 = some v1) : (∀ i, u.drew.cell? ⟨g0, i, none⟩ = c0[i]?) ∧ u.drew.cell? p0 = some v0 ∧ u.drew.cell? p1 = some v1 ∧ Below u.heap.size u u.drew :=
  ⟨x0.open.1, y0, y1, (Below.refl _ _).drew⟩

theorem keep1c2_later {u w' w'' : World} {g0 : Nat} {c0 : Array Value} {t0 : TypeId} {p0 p1 : Addr} {v0 v1 : Value} (x0 : Blk u g0 c0 t0) (y0 : u.cell? p0 = some v0) (y1 : u.cell? p1 = some v1) (h : (∀ i, w'.cell? ⟨g0, i, none⟩ = c0[i]?) ∧ w'.cell? p0 = some v0 ∧ w'.cell? p1 = some v1 ∧ Below u.heap.size u w') (b : Below w'.heap.size w' w'') : (∀ i, w''.cell? ⟨g0, i, none⟩ = c0[i]?) ∧ w''.cell? p0 = some v0 ∧ w''.cell? p1 = some v1 ∧ Below u.heap.size u w'' := by
  have B := h.2.2.2.trans (b.mono h.2.2.2.size)
  exact ⟨(x0.below B x0.lt).open.1, (cell_on y0 B), (cell_on y1 B), B⟩

theorem keep1c2_set {u w' : World} {g0 : Nat} {c0 : Array Value} {t0 : TypeId} {p0 p1 : Addr} {v0 v1 : Value} (x0 : Blk u g0 c0 t0) (y0 : u.cell? p0 = some v0) (y1 : u.cell? p1 = some v1) (h : (∀ i, w'.cell? ⟨g0, i, none⟩ = c0[i]?) ∧ w'.cell? p0 = some v0 ∧ w'.cell? p1 = some v1 ∧ Below u.heap.size u w') (p : Addr) (v : Value) (hp : u.heap.size ≤ p.block) : (∀ i, (w'.setCell p v).cell? ⟨g0, i, none⟩ = c0[i]?) ∧ (w'.setCell p v).cell? p0 = some v0 ∧ (w'.setCell p v).cell? p1 = some v1 ∧ Below u.heap.size u (w'.setCell p v) := by
  have B := h.2.2.2.setCell hp v
  exact ⟨(x0.below B x0.lt).open.1, (cell_on y0 B), (cell_on y1 B), B⟩

theorem keep1c3_start {u : World} {g0 : Nat} {c0 : Array Value} {t0 : TypeId} {p0 p1 p2 : Addr} {v0 v1 v2 : Value} (x0 : Blk u g0 c0 t0) (y0 : u.cell? p0 = some v0) (y1 : u.cell? p1 = some v1) (y2 : u.cell? p2 = some v2) : (∀ i, u.drew.cell? ⟨g0, i, none⟩ = c0[i]?) ∧ u.drew.cell? p0 = some v0 ∧ u.drew.cell? p1 = some v1 ∧ u.drew.cell? p2 = some v2 ∧ Below u.heap.size u u.drew :=
  ⟨x0.open.1, y0, y1, y2, (Below.refl _ _).drew⟩

theorem keep1c3_later {u w' w'' : World} {g0 : Nat} {c0 : Array Value} {t0 : TypeId} {p0 p1 p2 : Addr} {v0 v1 v2 : Value} (x0 : Blk u g0 c0 t0) (y0 : u.cell? p0 = some v0) (y1 : u.cell? p1 = some v1) (y2 : u.cell? p2 = some v2) (h : (∀ i, w'.cell? ⟨g0, i, none⟩ = c0[i]?) ∧ w'.cell? p0 = some v0 ∧ w'.cell? p1 = some v1 ∧ w'.cell? p2 = some v2 ∧ Below u.heap.size u w') (b : Below w'.heap.size w' w'') : (∀ i, w''.cell? ⟨g0, i, none⟩ = c0[i]?) ∧ w''.cell? p0 = some v0 ∧ w''.cell? p1 = some v1 ∧ w''.cell? p2 = some v2 ∧ Below u.heap.size u w'' := by
  have B := h.2.2.2.2.trans (b.mono h.2.2.2.2.size)
  exact ⟨(x0.below B x0.lt).open.1, (cell_on y0 B), (cell_on y1 B), (cell_on y2 B), B⟩

theorem keep1c3_set {u w' : World} {g0 : Nat} {c0 : Array Value} {t0 : TypeId} {p0 p1 p2 : Addr} {v0 v1 v2 : Value} (x0 : Blk u g0 c0 t0) (y0 : u.cell? p0 = some v0) (y1 : u.cell? p1 = some v1) (y2 : u.cell? p2 = some v2) (h : (∀ i, w'.cell? ⟨g0, i, none⟩ = c0[i]?) ∧ w'.cell? p0 = some v0 ∧ w'.cell? p1 = some v1 ∧ w'.cell? p2 = some v2 ∧ Below u.heap.size u w') (p : Addr) (v : Value) (hp : u.heap.size ≤ p.block) : (∀ i, (w'.setCell p v).cell? ⟨g0, i, none⟩ = c0[i]?) ∧ (w'.setCell p v).cell? p0 = some v0 ∧ (w'.setCell p v).cell? p1 = some v1 ∧ (w'.setCell p v).cell? p2 = some v2 ∧ Below u.heap.size u (w'.setCell p v) := by
  have B := h.2.2.2.2.setCell hp v
  exact ⟨(x0.below B x0.lt).open.1, (cell_on y0 B), (cell_on y1 B), (cell_on y2 B), B⟩

theorem keep2_start {u : World} {g0 g1 : Nat} {c0 c1 : Array Value} {t0 t1 : TypeId} (x0 : Blk u g0 c0 t0) (x1 : Blk u g1 c1 t1) : (∀ i, u.drew.cell? ⟨g0, i, none⟩ = c0[i]?) ∧ (∀ i, u.drew.cell? ⟨g1, i, none⟩ = c1[i]?) ∧ Below u.heap.size u u.drew :=
  ⟨x0.open.1, x1.open.1, (Below.refl _ _).drew⟩

theorem keep2_later {u w' w'' : World} {g0 g1 : Nat} {c0 c1 : Array Value} {t0 t1 : TypeId} (x0 : Blk u g0 c0 t0) (x1 : Blk u g1 c1 t1) (h : (∀ i, w'.cell? ⟨g0, i, none⟩ = c0[i]?) ∧ (∀ i, w'.cell? ⟨g1, i, none⟩ = c1[i]?) ∧ Below u.heap.size u w') (b : Below w'.heap.size w' w'') : (∀ i, w''.cell? ⟨g0, i, none⟩ = c0[i]?) ∧ (∀ i, w''.cell? ⟨g1, i, none⟩ = c1[i]?) ∧ Below u.heap.size u w'' := by
  have B := h.2.2.trans (b.mono h.2.2.size)
  exact ⟨(x0.below B x0.lt).open.1, (x1.below B x1.lt).open.1, B⟩

theorem keep2_set {u w' : World} {g0 g1 : Nat} {c0 c1 : Array Value} {t0 t1 : TypeId} (x0 : Blk u g0 c0 t0) (x1 : Blk u g1 c1 t1) (h : (∀ i, w'.cell? ⟨g0, i, none⟩ = c0[i]?) ∧ (∀ i, w'.cell? ⟨g1, i, none⟩ = c1[i]?) ∧ Below u.heap.size u w') (p : Addr) (v : Value) (hp : u.heap.size ≤ p.block) : (∀ i, (w'.setCell p v).cell? ⟨g0, i, none⟩ = c0[i]?) ∧ (∀ i, (w'.setCell p v).cell? ⟨g1, i, none⟩ = c1[i]?) ∧ Below u.heap.size u (w'.setCell p v) := by
  have B := h.2.2.setCell hp v
  exact ⟨(x0.below B x0.lt).open.1, (x1.below B x1.lt).open.1, B⟩

theorem keep2c1_start {u : World} {g0 g1 : Nat} {c0 c1 : Array Value} {t0 t1 : TypeId} {p0 : Addr} {v0 : Value} (x0 : Blk u g0 c0 t0) (x1 : Blk u g1 c1 t1) (y0 : u.cell? p0 = some v0) : (∀ i, u.drew.cell? ⟨g0, i, none⟩ = c0[i]?) ∧ (∀ i, u.drew.cell? ⟨g1, i, none⟩ = c1[i]?) ∧ u.drew.cell? p0 = some v0 ∧ Below u.heap.size u u.drew :=
  ⟨x0.open.1, x1.open.1, y0, (Below.refl _ _).drew⟩

theorem keep2c1_later {u w' w'' : World} {g0 g1 : Nat} {c0 c1 : Array Value} {t0 t1 : TypeId} {p0 : Addr} {v0 : Value} (x0 : Blk u g0 c0 t0) (x1 : Blk u g1 c1 t1) (y0 : u.cell? p0 = some v0) (h : (∀ i, w'.cell? ⟨g0, i, none⟩ = c0[i]?) ∧ (∀ i, w'.cell? ⟨g1, i, none⟩ = c1[i]?) ∧ w'.cell? p0 = some v0 ∧ Below u.heap.size u w') (b : Below w'.heap.size w' w'') : (∀ i, w''.cell? ⟨g0, i, none⟩ = c0[i]?) ∧ (∀ i, w''.cell? ⟨g1, i, none⟩ = c1[i]?) ∧ w''.cell? p0 = some v0 ∧ Below u.heap.size u w'' := by
  have B := h.2.2.2.trans (b.mono h.2.2.2.size)
  exact ⟨(x0.below B x0.lt).open.1, (x1.below B x1.lt).open.1, (cell_on y0 B), B⟩

theorem keep2c1_set {u w' : World} {g0 g1 : Nat} {c0 c1 : Array Value} {t0 t1 : TypeId} {p0 : Addr} {v0 : Value} (x0 : Blk u g0 c0 t0) (x1 : Blk u g1 c1 t1) (y0 : u.cell? p0 = some v0) (h : (∀ i, w'.cell? ⟨g0, i, none⟩ = c0[i]?) ∧ (∀ i, w'.cell? ⟨g1, i, none⟩ = c1[i]?) ∧ w'.cell? p0 = some v0 ∧ Below u.heap.size u w') (p : Addr) (v : Value) (hp : u.heap.size ≤ p.block) : (∀ i, (w'.setCell p v).cell? ⟨g0, i, none⟩ = c0[i]?) ∧ (∀ i, (w'.setCell p v).cell? ⟨g1, i, none⟩ = c1[i]?) ∧ (w'.setCell p v).cell? p0 = some v0 ∧ Below u.heap.size u (w'.setCell p v) := by
  have B := h.2.2.2.setCell hp v
  exact ⟨(x0.below B x0.lt).open.1, (x1.below B x1.lt).open.1, (cell_on y0 B), B⟩

theorem keep2c2_start {u : World} {g0 g1 : Nat} {c0 c1 : Array Value} {t0 t1 : TypeId} {p0 p1 : Addr} {v0 v1 : Value} (x0 : Blk u g0 c0 t0) (x1 : Blk u g1 c1 t1) (y0 : u.cell? p0 = some v0) (y1 : u.cell? p1 = some v1) : (∀ i, u.drew.cell? ⟨g0, i, none⟩ = c0[i]?) ∧ (∀ i, u.drew.cell? ⟨g1, i, none⟩ = c1[i]?) ∧ u.drew.cell? p0 = some v0 ∧ u.drew.cell? p1 = some v1 ∧ Below u.heap.size u u.drew :=
  ⟨x0.open.1, x1.open.1, y0, y1, (Below.refl _ _).drew⟩

theorem keep2c2_later {u w' w'' : World} {g0 g1 : Nat} {c0 c1 : Array Value} {t0 t1 : TypeId} {p0 p1 : Addr} {v0 v1 : Value} (x0 : Blk u g0 c0 t0) (x1 : Blk u g1 c1 t1) (y0 : u.cell? p0 = some v0) (y1 : u.cell? p1 = some v1) (h : (∀ i, w'.cell? ⟨g0, i, none⟩ = c0[i]?) ∧ (∀ i, w'.cell? ⟨g1, i, none⟩ = c1[i]?) ∧ w'.cell? p0 = some v0 ∧ w'.cell? p1 = some v1 ∧ Below u.heap.size u w') (b : Below w'.heap.size w' w'') : (∀ i, w''.cell? ⟨g0, i, none⟩ = c0[i]?) ∧ (∀ i, w''.cell? ⟨g1, i, none⟩ = c1[i]?) ∧ w''.cell? p0 = some v0 ∧ w''.cell? p1 = some v1 ∧ Below u.heap.size u w'' := by
  have B := h.2.2.2.2.trans (b.mono h.2.2.2.2.size)
  exact ⟨(x0.below B x0.lt).open.1, (x1.below B x1.lt).open.1, (cell_on y0 B), (cell_on y1 B), B⟩

theorem keep2c2_set {u w' : World} {g0 g1 : Nat} {c0 c1 : Array Value} {t0 t1 : TypeId} {p0 p1 : Addr} {v0 v1 : Value} (x0 : Blk u g0 c0 t0) (x1 : Blk u g1 c1 t1) (y0 : u.cell? p0 = some v0) (y1 : u.cell? p1 = some v1) (h : (∀ i, w'.cell? ⟨g0, i, none⟩ = c0[i]?) ∧ (∀ i, w'.cell? ⟨g1, i, none⟩ = c1[i]?) ∧ w'.cell? p0 = some v0 ∧ w'.cell? p1 = some v1 ∧ Below u.heap.size u w') (p : Addr) (v : Value) (hp : u.heap.size ≤ p.block) : (∀ i, (w'.setCell p v).cell? ⟨g0, i, none⟩ = c0[i]?) ∧ (∀ i, (w'.setCell p v).cell? ⟨g1, i, none⟩ = c1[i]?) ∧ (w'.setCell p v).cell? p0 = some v0 ∧ (w'.setCell p v).cell? p1 = some v1 ∧ Below u.heap.size u (w'.setCell p v) := by
  have B := h.2.2.2.2.setCell hp v
  exact ⟨(x0.below B x0.lt).open.1, (x1.below B x1.lt).open.1, (cell_on y0 B), (cell_on y1 B), B⟩

theorem keep2c3_start {u : World} {g0 g1 : Nat} {c0 c1 : Array Value} {t0 t1 : TypeId} {p0 p1 p2 : Addr} {v0 v1 v2 : Value} (x0 : Blk u g0 c0 t0) (x1 : Blk u g1 c1 t1) (y0 : u.cell? p0 = some v0) (y1 : u.cell? p1 = some v1) (y2 : u.cell? p2 = some v2) : (∀ i, u.drew.cell? ⟨g0, i, none⟩ = c0[i]?) ∧ (∀ i, u.drew.cell? ⟨g1, i, none⟩ = c1[i]?) ∧ u.drew.cell? p0 = some v0 ∧ u.drew.cell? p1 = some v1 ∧ u.drew.cell? p2 = some v2 ∧ Below u.heap.size u u.drew :=
  ⟨x0.open.1, x1.open.1, y0, y1, y2, (Below.refl _ _).drew⟩

theorem keep2c3_later {u w' w'' : World} {g0 g1 : Nat} {c0 c1 : Array Value} {t0 t1 : TypeId} {p0 p1 p2 : Addr} {v0 v1 v2 : Value} (x0 : Blk u g0 c0 t0) (x1 : Blk u g1 c1 t1) (y0 : u.cell? p0 = some v0) (y1 : u.cell? p1 = some v1) (y2 : u.cell? p2 = some v2) (h : (∀ i, w'.cell? ⟨g0, i, none⟩ = c0[i]?) ∧ (∀ i, w'.cell? ⟨g1, i, none⟩ = c1[i]?) ∧ w'.cell? p0 = some v0 ∧ w'.cell? p1 = some v1 ∧ w'.cell? p2 = some v2 ∧ Below u.heap.size u w') (b : Below w'.heap.size w' w'') : (∀ i, w''.cell? ⟨g0, i, none⟩ = c0[i]?) ∧ (∀ i, w''.cell? ⟨g1, i, none⟩ = c1[i]?) ∧ w''.cell? p0 = some v0 ∧ w''.cell? p1 = some v1 ∧ w''.cell? p2 = some v2 ∧ Below u.heap.size u w'' := by
  have B := h.2.2.2.2.2.trans (b.mono h.2.2.2.2.2.size)
  exact ⟨(x0.below B x0.lt).open.1, (x1.below B x1.lt).open.1, (cell_on y0 B), (cell_on y1 B), (cell_on y2 B), B⟩

theorem keep2c3_set {u w' : World} {g0 g1 : Nat} {c0 c1 : Array Value} {t0 t1 : TypeId} {p0 p1 p2 : Addr} {v0 v1 v2 : Value} (x0 : Blk u g0 c0 t0) (x1 : Blk u g1 c1 t1) (y0 : u.cell? p0 = some v0) (y1 : u.cell? p1 = some v1) (y2 : u.cell? p2 = some v2) (h : (∀ i, w'.cell? ⟨g0, i, none⟩ = c0[i]?) ∧ (∀ i, w'.cell? ⟨g1, i, none⟩ = c1[i]?) ∧ w'.cell? p0 = some v0 ∧ w'.cell? p1 = some v1 ∧ w'.cell? p2 = some v2 ∧ Below u.heap.size u w') (p : Addr) (v : Value) (hp : u.heap.size ≤ p.block) : (∀ i, (w'.setCell p v).cell? ⟨g0, i, none⟩ = c0[i]?) ∧ (∀ i, (w'.setCell p v).cell? ⟨g1, i, none⟩ = c1[i]?) ∧ (w'.setCell p v).cell? p0 = some v0 ∧ (w'.setCell p v).cell? p1 = some v1 ∧ (w'.setCell p v).cell? p2 = some v2 ∧ Below u.heap.size u (w'.setCell p v) := by
  have B := h.2.2.2.2.2.setCell hp v
  exact ⟨(x0.below B x0.lt).open.1, (x1.below B x1.lt).open.1, (cell_on y0 B), (cell_on y1 B), (cell_on y2 B), B⟩

theorem keep3_start {u : World} {g0 g1 g2 : Nat} {c0 c1 c2 : Array Value} {t0 t1 t2 : TypeId} (x0 : Blk u g0 c0 t0) (x1 : Blk u g1 c1 t1) (x2 : Blk u g2 c2 t2) : (∀ i, u.drew.cell? ⟨g0, i, none⟩ = c0[i]?) ∧ (∀ i, u.drew.cell? ⟨g1, i, none⟩ = c1[i]?) ∧ (∀ i, u.drew.cell? ⟨g2, i, none⟩ = c2[i]?) ∧ Below u.heap.size u u.drew :=
  ⟨x0.open.1, x1.open.1, x2.open.1, (Below.refl _ _).drew⟩

theorem keep3_later {u w' w'' : World} {g0 g1 g2 : Nat} {c0 c1 c2 : Array Value} {t0 t1 t2 : TypeId} (x0 : Blk u g0 c0 t0) (x1 : Blk u g1 c1 t1) (x2 : Blk u g2 c2 t2) (h : (∀ i, w'.cell? ⟨g0, i, none⟩ = c0[i]?) ∧ (∀ i, w'.cell? ⟨g1, i, none⟩ = c1[i]?) ∧ (∀ i, w'.cell? ⟨g2, i, none⟩ = c2[i]?) ∧ Below u.heap.size u w') (b : Below w'.heap.size w' w'') : (∀ i, w''.cell? ⟨g0, i, none⟩ = c0[i]?) ∧ (∀ i, w''.cell? ⟨g1, i, none⟩ = c1[i]?) ∧ (∀ i, w''.cell? ⟨g2, i, none⟩ = c2[i]?) ∧ Below u.heap.size u w'' := by
  have B := h.2.2.2.trans (b.mono h.2.2.2.size)
  exact ⟨(x0.below B x0.lt).open.1, (x1.below B x1.lt).open.1, (x2.below B x2.lt).open.1, B⟩

theorem keep3_set {u w' : World} {g0 g1 g2 : Nat} {c0 c1 c2 : Array Value} {t0 t1 t2 : TypeId} (x0 : Blk u g0 c0 t0) (x1 : Blk u g1 c1 t1) (x2 : Blk u g2 c2 t2) (h : (∀ i, w'.cell? ⟨g0, i, none⟩ = c0[i]?) ∧ (∀ i, w'.cell? ⟨g1, i, none⟩ = c1[i]?) ∧ (∀ i, w'.cell? ⟨g2, i, none⟩ = c2[i]?) ∧ Below u.heap.size u w') (p : Addr) (v : Value) (hp : u.heap.size ≤ p.block) : (∀ i, (w'.setCell p v).cell? ⟨g0, i, none⟩ = c0[i]?) ∧ (∀ i, (w'.setCell p v).cell? ⟨g1, i, none⟩ = c1[i]?) ∧ (∀ i, (w'.setCell p v).cell? ⟨g2, i, none⟩ = c2[i]?) ∧ Below u.heap.size u (w'.setCell p v) := by
  have B := h.2.2.2.setCell hp v
  exact ⟨(x0.below B x0.lt).open.1, (x1.below B x1.lt).open.1, (x2.below B x2.lt).open.1, B⟩

theorem keep3c1_start {u : World} {g0 g1 g2 : Nat} {c0 c1 c2 : Array Value} {t0 t1 t2 : TypeId} {p0 : Addr} {v0 : Value} (x0 : Blk u g0 c0 t0) (x1 : Blk u g1 c1 t1) (x2 : Blk u g2 c2 t2) (y0 : u.cell? p0 = some v0) : (∀ i, u.drew.cell? ⟨g0, i, none⟩ = c0[i]?) ∧ (∀ i, u.drew.cell? ⟨g1, i, none⟩ = c1[i]?) ∧ (∀ i, u.drew.cell? ⟨g2, i, none⟩ = c2[i]?) ∧ u.drew.cell? p0 = some v0 ∧ Below u.heap.size u u.drew :=
  ⟨x0.open.1, x1.open.1, x2.open.1, y0, (Below.refl _ _).drew⟩

theorem keep3c1_later {u w' w'' : World} {g0 g1 g2 : Nat} {c0 c1 c2 : Array Value} {t0 t1 t2 : TypeId} {p0 : Addr} {v0 : Value} (x0 : Blk u g0 c0 t0) (x1 : Blk u g1 c1 t1) (x2 : Blk u g2 c2 t2) (y0 : u.cell? p0 = some v0) (h : (∀ i, w'.cell? ⟨g0, i, none⟩ = c0[i]?) ∧ (∀ i, w'.cell? ⟨g1, i, none⟩ = c1[i]?) ∧ (∀ i, w'.cell? ⟨g2, i, none⟩ = c2[i]?) ∧ w'.cell? p0 = some v0 ∧ Below u.heap.size u w') (b : Below w'.heap.size w' w'') : (∀ i, w''.cell? ⟨g0, i, none⟩ = c0[i]?) ∧ (∀ i, w''.cell? ⟨g1, i, none⟩ = c1[i]?) ∧ (∀ i, w''.cell? ⟨g2, i, none⟩ = c2[i]?) ∧ w''.cell? p0 = some v0 ∧ Below u.heap.size u w'' := by
  have B := h.2.2.2.2.trans (b.mono h.2.2.2.2.size)
  exact ⟨(x0.below B x0.lt).open.1, (x1.below B x1.lt).open.1, (x2.below B x2.lt).open.1, (cell_on y0 B), B⟩

theorem keep3c1_set {u w' : World} {g0 g1 g2 : Nat} {c0 c1 c2 : Array Value} {t0 t1 t2 : TypeId} {p0 : Addr} {v0 : Value} (x0 : Blk u g0 c0 t0) (x1 : Blk u g1 c1 t1) (x2 : Blk u g2 c2 t2) (y0 : u.cell? p0 = some v0) (h : (∀ i, w'.cell? ⟨g0, i, none⟩ = c0[i]?) ∧ (∀ i, w'.cell? ⟨g1, i, none⟩ = c1[i]?) ∧ (∀ i, w'.cell? ⟨g2, i, none⟩ = c2[i]?) ∧ w'.cell? p0 = some v0 ∧ Below u.heap.size u w') (p : Addr) (v : Value) (hp : u.heap.size ≤ p.block) : (∀ i, (w'.setCell p v).cell? ⟨g0, i, none⟩ = c0[i]?) ∧ (∀ i, (w'.setCell p v).cell? ⟨g1, i, none⟩ = c1[i]?) ∧ (∀ i, (w'.setCell p v).cell? ⟨g2, i, none⟩ = c2[i]?) ∧ (w'.setCell p v).cell? p0 = some v0 ∧ Below u.heap.size u (w'.setCell p v) := by
  have B := h.2.2.2.2.setCell hp v
  exact ⟨(x0.below B x0.lt).open.1, (x1.below B x1.lt).open.1, (x2.below B x2.lt).open.1, (cell_on y0 B), B⟩

theorem keep3c2_start {u : World} {g0 g1 g2 : Nat} {c0 c1 c2 : Array Value} {t0 t1 t2 : TypeId} {p0 p1 : Addr} {v0 v1 : Value} (x0 : Blk u g0 c0 t0) (x1 : Blk u g1 c1 t1) (x2 : Blk u g2 c2 t2) (y0 : u.cell? p0 = some v0) (y1 : u.cell? p1 = some v1) : (∀ i, u.drew.cell? ⟨g0, i, none⟩ = c0[i]?) ∧ (∀ i, u.drew.cell? ⟨g1, i, none⟩ = c1[i]?) ∧ (∀ i, u.drew.cell? ⟨g2, i, none⟩ = c2[i]?) ∧ u.drew.cell? p0 = some v0 ∧ u.drew.cell? p1 = some v1 ∧ Below u.heap.size u u.drew :=
  ⟨x0.open.1, x1.open.1, x2.open.1, y0, y1, (Below.refl _ _).drew⟩

theorem keep3c2_later {u w' w'' : World} {g0 g1 g2 : Nat} {c0 c1 c2 : Array Value} {t0 t1 t2 : TypeId} {p0 p1 : Addr} {v0 v1 : Value} (x0 : Blk u g0 c0 t0) (x1 : Blk u g1 c1 t1) (x2 : Blk u g2 c2 t2) (y0 : u.cell? p0 = some v0) (y1 : u.cell? p1 = some v1) (h : (∀ i, w'.cell? ⟨g0, i, none⟩ = c0[i]?) ∧ (∀ i, w'.cell? ⟨g1, i, none⟩ = c1[i]?) ∧ (∀ i, w'.cell? ⟨g2, i, none⟩ = c2[i]?) ∧ w'.cell? p0 = some v0 ∧ w'.cell? p1 = some v1 ∧ Below u.heap.size u w') (b : Below w'.heap.size w' w'') : (∀ i, w''.cell? ⟨g0, i, none⟩ = c0[i]?) ∧ (∀ i, w''.cell? ⟨g1, i, none⟩ = c1[i]?) ∧ (∀ i, w''.cell? ⟨g2, i, none⟩ = c2[i]?) ∧ w''.cell? p0 = some v0 ∧ w''.cell? p1 = some v1 ∧ Below u.heap.size u w'' := by
  have B := h.2.2.2.2.2.trans (b.mono h.2.2.2.2.2.size)
  exact ⟨(x0.below B x0.lt).open.1, (x1.below B x1.lt).open.1, (x2.below B x2.lt).open.1, (cell_on y0 B), (cell_on y1 B), B⟩

theorem keep3c2_set {u w' : World} {g0 g1 g2 : Nat} {c0 c1 c2 : Array Value} {t0 t1 t2 : TypeId} {p0 p1 : Addr} {v0 v1 : Value} (x0 : Blk u g0 c0 t0) (x1 : Blk u g1 c1 t1) (x2 : Blk u g2 c2 t2) (y0 : u.cell? p0 = some v0) (y1 : u.cell? p1 = some v1) (h : (∀ i, w'.cell? ⟨g0, i, none⟩ = c0[i]?) ∧ (∀ i, w'.cell? ⟨g1, i, none⟩ = c1[i]?) ∧ (∀ i, w'.cell? ⟨g2, i, none⟩ = c2[i]?) ∧ w'.cell? p0 = some v0 ∧ w'.cell? p1 = some v1 ∧ Below u.heap.size u w') (p : Addr) (v : Value) (hp : u.heap.size ≤ p.block) : (∀ i, (w'.setCell p v).cell? ⟨g0, i, none⟩ = c0[i]?) ∧ (∀ i, (w'.setCell p v).cell? ⟨g1, i, none⟩ = c1[i]?) ∧ (∀ i, (w'.setCell p v).cell? ⟨g2, i, none⟩ = c2[i]?) ∧ (w'.setCell p v).cell? p0 = some v0 ∧ (w'.setCell p v).cell? p1 = some v1 ∧ Below u.heap.size u (w'.setCell p v) := by
  have B := h.2.2.2.2.2.setCell hp v
  exact ⟨(x0.below B x0.lt).open.1, (x1.below B x1.lt).open.1, (x2.below B x2.lt).open.1, (cell_on y0 B), (cell_on y1 B), B⟩

theorem keep3c3_start {u : World} {g0 g1 g2 : Nat} {c0 c1 c2 : Array Value} {t0 t1 t2 : TypeId} {p0 p1 p2 : Addr} {v0 v1 v2 : Value} (x0 : Blk u g0 c0 t0) (x1 : Blk u g1 c1 t1) (x2 : Blk u g2 c2 t2) (y0 : u.cell? p0 = some v0) (y1 : u.cell? p1 = some v1) (y2 : u.cell? p2 = some v2) : (∀ i, u.drew.cell? ⟨g0, i, none⟩ = c0[i]?) ∧ (∀ i, u.drew.cell? ⟨g1, i, none⟩ = c1[i]?) ∧ (∀ i, u.drew.cell? ⟨g2, i, none⟩ = c2[i]?) ∧ u.drew.cell? p0 = some v0 ∧ u.drew.cell? p1 = some v1 ∧ u.drew.cell? p2 = some v2 ∧ Below u.heap.size u u.drew :=
  ⟨x0.open.1, x1.open.1, x2.open.1, y0, y1, y2, (Below.refl _ _).drew⟩

theorem keep3c3_later {u w' w'' : World} {g0 g1 g2 : Nat} {c0 c1 c2 : Array Value} {t0 t1 t2 : TypeId} {p0 p1 p2 : Addr} {v0 v1 v2 : Value} (x0 : Blk u g0 c0 t0) (x1 : Blk u g1 c1 t1) (x2 : Blk u g2 c2 t2) (y0 : u.cell? p0 = some v0) (y1 : u.cell? p1 = some v1) (y2 : u.cell? p2 = some v2) (h : (∀ i, w'.cell? ⟨g0, i, none⟩ = c0[i]?) ∧ (∀ i, w'.cell? ⟨g1, i, none⟩ = c1[i]?) ∧ (∀ i, w'.cell? ⟨g2, i, none⟩ = c2[i]?) ∧ w'.cell? p0 = some v0 ∧ w'.cell? p1 = some v1 ∧ w'.cell? p2 = some v2 ∧ Below u.heap.size u w') (b : Below w'.heap.size w' w'') : (∀ i, w''.cell? ⟨g0, i, none⟩ = c0[i]?) ∧ (∀ i, w''.cell? ⟨g1, i, none⟩ = c1[i]?) ∧ (∀ i, w''.cell? ⟨g2, i, none⟩ = c2[i]?) ∧ w''.cell? p0 = some v0 ∧ w''.cell? p1 = some v1 ∧ w''.cell? p2 = some v2 ∧ Below u.heap.size u w'' := by
  have B := h.2.2.2.2.2.2.trans (b.mono h.2.2.2.2.2.2.size)
  exact ⟨(x0.below B x0.lt).open.1, (x1.below B x1.lt).open.1, (x2.below B x2.lt).open.1, (cell_on y0 B), (cell_on y1 B), (cell_on y2 B), B⟩

theorem keep3c3_set {u w' : World} {g0 g1 g2 : Nat} {c0 c1 c2 : Array Value} {t0 t1 t2 : TypeId} {p0 p1 p2 : Addr} {v0 v1 v2 : Value} (x0 : Blk u g0 c0 t0) (x1 : Blk u g1 c1 t1) (x2 : Blk u g2 c2 t2) (y0 : u.cell? p0 = some v0) (y1 : u.cell? p1 = some v1) (y2 : u.cell? p2 = some v2) (h : (∀ i, w'.cell? ⟨g0, i, none⟩ = c0[i]?) ∧ (∀ i, w'.cell? ⟨g1, i, none⟩ = c1[i]?) ∧ (∀ i, w'.cell? ⟨g2, i, none⟩ = c2[i]?) ∧ w'.cell? p0 = some v0 ∧ w'.cell? p1 = some v1 ∧ w'.cell? p2 = some v2 ∧ Below u.heap.size u w') (p : Addr) (v : Value) (hp : u.heap.size ≤ p.block) : (∀ i, (w'.setCell p v).cell? ⟨g0, i, none⟩ = c0[i]?) ∧ (∀ i, (w'.setCell p v).cell? ⟨g1, i, none⟩ = c1[i]?) ∧ (∀ i, (w'.setCell p v).cell? ⟨g2, i, none⟩ = c2[i]?) ∧ (w'.setCell p v).cell? p0 = some v0 ∧ (w'.setCell p v).cell? p1 = some v1 ∧ (w'.setCell p v).cell? p2 = some v2 ∧ Below u.heap.size u (w'.setCell p v) := by
  have B := h.2.2.2.2.2.2.setCell hp v
  exact ⟨(x0.below B x0.lt).open.1, (x1.below B x1.lt).open.1, (x2.below B x2.lt).open.1, (cell_on y0 B), (cell_on y1 B), (cell_on y2 B), B⟩

theorem keep4_start {u : World} {g0 g1 g2 g3 : Nat} {c0 c1 c2 c3 : Array Value} {t0 t1 t2 t3 : TypeId} (x0 : Blk u g0 c0 t0) (x1 : Blk u g1 c1 t1) (x2 : Blk u g2 c2 t2) (x3 : Blk u g3 c3 t3) : (∀ i, u.drew.cell? ⟨g0, i, none⟩ = c0[i]?) ∧ (∀ i, u.drew.cell? ⟨g1, i, none⟩ = c1[i]?) ∧ (∀ i, u.drew.cell? ⟨g2, i, none⟩ = c2[i]?) ∧ (∀ i, u.drew.cell? ⟨g3, i, none⟩ = c3[i]?) ∧ Below u.heap.size u u.drew :=
  ⟨x0.open.1, x1.open.1, x2.open.1, x3.open.1, (Below.refl _ _).drew⟩

theorem keep4_later {u w' w'' : World} {g0 g1 g2 g3 : Nat} {c0 c1 c2 c3 : Array Value} {t0 t1 t2 t3 : TypeId} (x0 : Blk u g0 c0 t0) (x1 : Blk u g1 c1 t1) (x2 : Blk u g2 c2 t2) (x3 : Blk u g3 c3 t3) (h : (∀ i, w'.cell? ⟨g0, i, none⟩ = c0[i]?) ∧ (∀ i, w'.cell? ⟨g1, i, none⟩ = c1[i]?) ∧ (∀ i, w'.cell? ⟨g2, i, none⟩ = c2[i]?) ∧ (∀ i, w'.cell? ⟨g3, i, none⟩ = c3[i]?) ∧ Below u.heap.size u w') (b : Below w'.heap.size w' w'') : (∀ i, w''.cell? ⟨g0, i, none⟩ = c0[i]?) ∧ (∀ i, w''.cell? ⟨g1, i, none⟩ = c1[i]?) ∧ (∀ i, w''.cell? ⟨g2, i, none⟩ = c2[i]?) ∧ (∀ i, w''.cell? ⟨g3, i, none⟩ = c3[i]?) ∧ Below u.heap.size u w'' := by
  have B := h.2.2.2.2.trans (b.mono h.2.2.2.2.size)
  exact ⟨(x0.below B x0.lt).open.1, (x1.below B x1.lt).open.1, (x2.below B x2.lt).open.1, (x3.below B x3.lt).open.1, B⟩

theorem keep4_set {u w' : World} {g0 g1 g2 g3 : Nat} {c0 c1 c2 c3 : Array Value} {t0 t1 t2 t3 : TypeId} (x0 : Blk u g0 c0 t0) (x1 : Blk u g1 c1 t1) (x2 : Blk u g2 c2 t2) (x3 : Blk u g3 c3 t3) (h : (∀ i, w'.cell? ⟨g0, i, none⟩ = c0[i]?) ∧ (∀ i, w'.cell? ⟨g1, i, none⟩ = c1[i]?) ∧ (∀ i, w'.cell? ⟨g2, i, none⟩ = c2[i]?) ∧ (∀ i, w'.cell? ⟨g3, i, none⟩ = c3[i]?) ∧ Below u.heap.size u w') (p : Addr) (v : Value) (hp : u.heap.size ≤ p.block) : (∀ i, (w'.setCell p v).cell? ⟨g0, i, none⟩ = c0[i]?) ∧ (∀ i, (w'.setCell p v).cell? ⟨g1, i, none⟩ = c1[i]?) ∧ (∀ i, (w'.setCell p v).cell? ⟨g2, i, none⟩ = c2[i]?) ∧ (∀ i, (w'.setCell p v).cell? ⟨g3, i, none⟩ = c3[i]?) ∧ Below u.heap.size u (w'.setCell p v) := by
  have B := h.2.2.2.2.setCell hp v
  exact ⟨(x0.below B x0.lt).open.1, (x1.below B x1.lt).open.1, (x2.below B x2.lt).open.1, (x3.below B x3.lt).open.1, B⟩

theorem keep4c1_start {u : World} {g0 g1 g2 g3 : Nat} {c0 c1 c2 c3 : Array Value} {t0 t1 t2 t3 : TypeId} {p0 : Addr} {v0 : Value} (x0 : Blk u g0 c0 t0) (x1 : Blk u g1 c1 t1) (x2 : Blk u g2 c2 t2) (x3 : Blk u g3 c3 t3) (y0 : u.cell? p0 = some v0) : (∀ i, u.drew.cell? ⟨g0, i, none⟩ = c0[i]?) ∧ (∀ i, u.drew.cell? ⟨g1, i, none⟩ = c1[i]?) ∧ (∀ i, u.drew.cell? ⟨g2, i, none⟩ = c2[i]?) ∧ (∀ i, u.drew.cell? ⟨g3, i, none⟩ = c3[i]?) ∧ u.drew.cell? p0 = some v0 ∧ Below u.heap.size u u.drew :=
  ⟨x0.open.1, x1.open.1, x2.open.1, x3.open.1, y0, (Below.refl _ _).drew⟩

theorem keep4c1_later {u w' w'' : World} {g0 g1 g2 g3 : Nat} {c0 c1 c2 c3 : Array Value} {t0 t1 t2 t3 : TypeId} {p0 : Addr} {v0 : Value} (x0 : Blk u g0 c0 t0) (x1 : Blk u g1 c1 t1) (x2 : Blk u g2 c2 t2) (x3 : Blk u g3 c3 t3) (y0 : u.cell? p0 = some v0) (h : (∀ i, w'.cell? ⟨g0, i, none⟩ = c0[i]?) ∧ (∀ i, w'.cell? ⟨g1, i, none⟩ = c1[i]?) ∧ (∀ i, w'.cell? ⟨g2, i, none⟩ = c2[i]?) ∧ (∀ i, w'.cell? ⟨g3, i, none⟩ = c3[i]?) ∧ w'.cell? p0 = some v0 ∧ Below u.heap.size u w') (b : Below w'.heap.size w' w'') : (∀ i, w''.cell? ⟨g0, i, none⟩ = c0[i]?) ∧ (∀ i, w''.cell? ⟨g1, i, none⟩ = c1[i]?) ∧ (∀ i, w''.cell? ⟨g2, i, none⟩ = c2[i]?) ∧ (∀ i, w''.cell? ⟨g3, i, none⟩ = c3[i]?) ∧ w''.cell? p0 = some v0 ∧ Below u.heap.size u w'' := by
  have B := h.2.2.2.2.2.trans (b.mono h.2.2.2.2.2.size)
  exact ⟨(x0.below B x0.lt).open.1, (x1.below B x1.lt).open.1, (x2.below B x2.lt).open.1, (x3.below B x3.lt).open.1, (cell_on y0 B), B⟩

theorem keep4c1_set {u w' : World} {g0 g1 g2 g3 : Nat} {c0 c1 c2 c3 : Array Value} {t0 t1 t2 t3 : TypeId} {p0 : Addr} {v0 : Value} (x0 : Blk u g0 c0 t0) (x1 : Blk u g1 c1 t1) (x2 : Blk u g2 c2 t2) (x3 : Blk u g3 c3 t3) (y0 : u.cell? p0 = some v0) (h : (∀ i, w'.cell? ⟨g0, i, none⟩ = c0[i]?) ∧ (∀ i, w'.cell? ⟨g1, i, none⟩ = c1[i]?) ∧ (∀ i, w'.cell? ⟨g2, i, none⟩ = c2[i]?) ∧ (∀ i, w'.cell? ⟨g3, i, none⟩ = c3[i]?) ∧ w'.cell? p0 = some v0 ∧ Below u.heap.size u w') (p : Addr) (v : Value) (hp : u.heap.size ≤ p.block) : (∀ i, (w'.setCell p v).cell? ⟨g0, i, none⟩ = c0[i]?) ∧ (∀ i, (w'.setCell p v).cell? ⟨g1, i, none⟩ = c1[i]?) ∧ (∀ i, (w'.setCell p v).cell? ⟨g2, i, none⟩ = c2[i]?) ∧ (∀ i, (w'.setCell p v).cell? ⟨g3, i, none⟩ = c3[i]?) ∧ (w'.setCell p v).cell? p0 = some v0 ∧ Below u.heap.size u (w'.setCell p v) := by
  have B := h.2.2.2.2.2.setCell hp v
  exact ⟨(x0.below B x0.lt).open.1, (x1.below B x1.lt).open.1, (x2.below B x2.lt).open.1, (x3.below B x3.lt).open.1, (cell_on y0 B), B⟩

theorem keep4c2_start {u : World} {g0 g1 g2 g3 : Nat} {c0 c1 c2 c3 : Array Value} {t0 t1 t2 t3 : TypeId} {p0 p1 : Addr} {v0 v1 : Value} (x0 : Blk u g0 c0 t0) (x1 : Blk u g1 c1 t1) (x2 : Blk u g2 c2 t2) (x3 : Blk u g3 c3 t3) (y0 : u.cell? p0 = some v0) (y1 : u.cell? p1 = some v1) : (∀ i, u.drew.cell? ⟨g0, i, none⟩ = c0[i]?) ∧ (∀ i, u.drew.cell? ⟨g1, i, none⟩ = c1[i]?) ∧ (∀ i, u.drew.cell? ⟨g2, i, none⟩ = c2[i]?) ∧ (∀ i, u.drew.cell? ⟨g3, i, none⟩ = c3[i]?) ∧ u.drew.cell? p0 = some v0 ∧ u.drew.cell? p1 = some v1 ∧ Below u.heap.size u u.drew :=
  ⟨x0.open.1, x1.open.1, x2.open.1, x3.open.1, y0, y1, (Below.refl _ _).drew⟩

theorem keep4c2_later {u w' w'' : World} {g0 g1 g2 g3 : Nat} {c0 c1 c2 c3 : Array Value} {t0 t1 t2 t3 : TypeId} {p0 p1 : Addr} {v0 v1 : Value} (x0 : Blk u g0 c0 t0) (x1 : Blk u g1 c1 t1) (x2 : Blk u g2 c2 t2) (x3 : Blk u g3 c3 t3) (y0 : u.cell? p0 = some v0) (y1 : u.cell? p1 = some v1) (h : (∀ i, w'.cell? ⟨g0, i, none⟩ = c0[i]?) ∧ (∀ i, w'.cell? ⟨g1, i, none⟩ = c1[i]?) ∧ (∀ i, w'.cell? ⟨g2, i, none⟩ = c2[i]?) ∧ (∀ i, w'.cell? ⟨g3, i, none⟩ = c3[i]?) ∧ w'.cell? p0 = some v0 ∧ w'.cell? p1 = some v1 ∧ Below u.heap.size u w') (b : Below w'.heap.size w' w'') : (∀ i, w''.cell? ⟨g0, i, none⟩ = c0[i]?) ∧ (∀ i, w''.cell? ⟨g1, i, none⟩ = c1[i]?) ∧ (∀ i, w''.cell? ⟨g2, i, none⟩ = c2[i]?) ∧ (∀ i, w''.cell? ⟨g3, i, none⟩ = c3[i]?) ∧ w''.cell? p0 = some v0 ∧ w''.cell? p1 = some v1 ∧ Below u.heap.size u w'' := by
  have B := h.2.2.2.2.2.2.trans (b.mono h.2.2.2.2.2.2.size)
  exact ⟨(x0.below B x0.lt).open.1, (x1.below B x1.lt).open.1, (x2.below B x2.lt).open.1, (x3.below B x3.lt).open.1, (cell_on y0 B), (cell_on y1 B), B⟩

theorem keep4c2_set {u w' : World} {g0 g1 g2 g3 : Nat} {c0 c1 c2 c3 : Array Value} {t0 t1 t2 t3 : TypeId} {p0 p1 : Addr} {v0 v1 : Value} (x0 : Blk u g0 c0 t0) (x1 : Blk u g1 c1 t1) (x2 : Blk u g2 c2 t2) (x3 : Blk u g3 c3 t3) (y0 : u.cell? p0 = some v0) (y1 : u.cell? p1 = some v1) (h : (∀ i, w'.cell? ⟨g0, i, none⟩ = c0[i]?) ∧ (∀ i, w'.cell? ⟨g1, i, none⟩ = c1[i]?) ∧ (∀ i, w'.cell? ⟨g2, i, none⟩ = c2[i]?) ∧ (∀ i, w'.cell? ⟨g3, i, none⟩ = c3[i]?) ∧ w'.cell? p0 = some v0 ∧ w'.cell? p1 = some v1 ∧ Below u.heap.size u w') (p : Addr) (v : Value) (hp : u.heap.size ≤ p.block) : (∀ i, (w'.setCell p v).cell? ⟨g0, i, none⟩ = c0[i]?) ∧ (∀ i, (w'.setCell p v).cell? ⟨g1, i, none⟩ = c1[i]?) ∧ (∀ i, (w'.setCell p v).cell? ⟨g2, i, none⟩ = c2[i]?) ∧ (∀ i, (w'.setCell p v).cell? ⟨g3, i, none⟩ = c3[i]?) ∧ (w'.setCell p v).cell? p0 = some v0 ∧ (w'.setCell p v).cell? p1 = some v1 ∧ Below u.heap.size u (w'.setCell p v) := by
  have B := h.2.2.2.2.2.2.setCell hp v
  exact ⟨(x0.below B x0.lt).open.1, (x1.below B x1.lt).open.1, (x2.below B x2.lt).open.1, (x3.below B x3.lt).open.1, (cell_on y0 B), (cell_on y1 B), B⟩

theorem keep4c3_start {u : World} {g0 g1 g2 g3 : Nat} {c0 c1 c2 c3 : Array Value} {t0 t1 t2 t3 : TypeId} {p0 p1 p2 : Addr} {v0 v1 v2 : Value} (x0 : Blk u g0 c0 t0) (x1 : Blk u g1 c1 t1) (x2 : Blk u g2 c2 t2) (x3 : Blk u g3 c3 t3) (y0 : u.cell? p0 = some v0) (y1 : u.cell? p1 = some v1) (y2 : u.cell? p2 = some v2) : (∀ i, u.drew.cell? ⟨g0, i, none⟩ = c0[i]?) ∧ (∀ i, u.drew.cell? ⟨g1, i, none⟩ = c1[i]?) ∧ (∀ i, u.drew.cell? ⟨g2, i, none⟩ = c2[i]?) ∧ (∀ i, u.drew.cell? ⟨g3, i, none⟩ = c3[i]?) ∧ u.drew.cell? p0 = some v0 ∧ u.drew.cell? p1 = some v1 ∧ u.drew.cell? p2 = some v2 ∧ Below u.heap.size u u.drew :=
  ⟨x0.open.1, x1.open.1, x2.open.1, x3.open.1, y0, y1, y2, (Below.refl _ _).drew⟩

theorem keep4c3_later {u w' w'' : World} {g0 g1 g2 g3 : Nat} {c0 c1 c2 c3 : Array Value} {t0 t1 t2 t3 : TypeId} {p0 p1 p2 : Addr} {v0 v1 v2 : Value} (x0 : Blk u g0 c0 t0) (x1 : Blk u g1 c1 t1) (x2 : Blk u g2 c2 t2) (x3 : Blk u g3 c3 t3) (y0 : u.cell? p0 = some v0) (y1 : u.cell? p1 = some v1) (y2 : u.cell? p2 = some v2) (h : (∀ i, w'.cell? ⟨g0, i, none⟩ = c0[i]?) ∧ (∀ i, w'.cell? ⟨g1, i, none⟩ = c1[i]?) ∧ (∀ i, w'.cell? ⟨g2, i, none⟩ = c2[i]?) ∧ (∀ i, w'.cell? ⟨g3, i, none⟩ = c3[i]?) ∧ w'.cell? p0 = some v0 ∧ w'.cell? p1 = some v1 ∧ w'.cell? p2 = some v2 ∧ Below u.heap.size u w') (b : Below w'.heap.size w' w'') : (∀ i, w''.cell? ⟨g0, i, none⟩ = c0[i]?) ∧ (∀ i, w''.cell? ⟨g1, i, none⟩ = c1[i]?) ∧ (∀ i, w''.cell? ⟨g2, i, none⟩ = c2[i]?) ∧ (∀ i, w''.cell? ⟨g3, i, none⟩ = c3[i]?) ∧ w''.cell? p0 = some v0 ∧ w''.cell? p1 = some v1 ∧ w''.cell? p2 = some v2 ∧ Below u.heap.size u w'' := by
  have B := h.2.2.2.2.2.2.2.trans (b.mono h.2.2.2.2.2.2.2.size)
  exact ⟨(x0.below B x0.lt).open.1, (x1.below B x1.lt).open.1, (x2.below B x2.lt).open.1, (x3.below B x3.lt).open.1, (cell_on y0 B), (cell_on y1 B), (cell_on y2 B), B⟩

theorem keep4c3_set {u w' : World} {g0 g1 g2 g3 : Nat} {c0 c1 c2 c3 : Array Value} {t0 t1 t2 t3 : TypeId} {p0 p1 p2 : Addr} {v0 v1 v2 : Value} (x0 : Blk u g0 c0 t0) (x1 : Blk u g1 c1 t1) (x2 : Blk u g2 c2 t2) (x3 : Blk u g3 c3 t3) (y0 : u.cell? p0 = some v0) (y1 : u.cell? p1 = some v1) (y2 : u.cell? p2 = some v2) (h : (∀ i, w'.cell? ⟨g0, i, none⟩ = c0[i]?) ∧ (∀ i, w'.cell? ⟨g1, i, none⟩ = c1[i]?) ∧ (∀ i, w'.cell? ⟨g2, i, none⟩ = c2[i]?) ∧ (∀ i, w'.cell? ⟨g3, i, none⟩ = c3[i]?) ∧ w'.cell? p0 = some v0 ∧ w'.cell? p1 = some v1 ∧ w'.cell? p2 = some v2 ∧ Below u.heap.size u w') (p : Addr) (v : Value) (hp : u.heap.size ≤ p.block) : (∀ i, (w'.setCell p v).cell? ⟨g0, i, none⟩ = c0[i]?) ∧ (∀ i, (w'.setCell p v).cell? ⟨g1, i, none⟩ = c1[i]?) ∧ (∀ i, (w'.setCell p v).cell? ⟨g2, i, none⟩ = c2[i]?) ∧ (∀ i, (w'.setCell p v).cell? ⟨g3, i, none⟩ = c3[i]?) ∧ (w'.setCell p v).cell? p0 = some v0 ∧ (w'.setCell p v).cell? p1 = some v1 ∧ (w'.setCell p v).cell? p2 = some v2 ∧ Below u.heap.size u (w'.setCell p v) := by
  have B := h.2.2.2.2.2.2.2.setCell hp v
  exact ⟨(x0.below B x0.lt).open.1, (x1.below B x1.lt).open.1, (x2.below B x2.lt).open.1, (x3.below B x3.lt).open.1, (cell_on y0 B), (cell_on y1 B), (cell_on y2 B), B⟩
end Go.Proofs.Ytabhjnpmmjmaiab
