/- What a region keeps that loads two structs and makes a copy. Conditions: none beyond those of each theorem. -/
import Derived.Test.YtabhjnpmmjmaiabCopy
import Derived.Deep.RegionHeld3
import Derived.Deep.DeepCutAuto
namespace Go.Proofs.Ytabhjnpmmjmaiab
open Go Ieee Go.RowKit

/-- two blocks as they were, and nothing of what was there is another -/
def Kept2 (u : World) (g1 g2 : Nat) (c1 c2 : Array Value) (w' : World) : Prop := (∀ i, w'.cell? ⟨g1, i, none⟩ = c1[i]?) ∧ (∀ i, w'.cell? ⟨g2, i, none⟩ = c2[i]?) ∧ Below u.heap.size u w'

section
variable {u w' w'' : World} {g1 g2 : Nat} {c1 c2 : Array Value}

theorem kept_start {t1 t2 : TypeId} (x : Blk u g1 c1 t1) (y : Blk u g2 c2 t2) : (∀ i, u.drew.cell? ⟨g1, i, none⟩ = c1[i]?) ∧ (∀ i, u.drew.cell? ⟨g2, i, none⟩ = c2[i]?) ∧ Below u.heap.size u u.drew :=
  ⟨x.open.1, y.open.1, (Below.refl _ _).drew⟩

theorem kept_later {t1 t2 : TypeId} (x : Blk u g1 c1 t1) (y : Blk u g2 c2 t2) (h : (∀ i, w'.cell? ⟨g1, i, none⟩ = c1[i]?) ∧ (∀ i, w'.cell? ⟨g2, i, none⟩ = c2[i]?) ∧ Below u.heap.size u w') (b : Below w'.heap.size w' w'') :
    (∀ i, w''.cell? ⟨g1, i, none⟩ = c1[i]?) ∧ (∀ i, w''.cell? ⟨g2, i, none⟩ = c2[i]?) ∧ Below u.heap.size u w'' := by
  have B := h.2.2.trans (b.mono h.2.2.size)
  exact ⟨(x.below B x.lt).open.1, (y.below B y.lt).open.1, B⟩

theorem row_kept {w : World} {a : Option Addr} {vs : List Value} {A B : Prop} (h : RowV w a vs) (hu : Below w.heap.size w u) (k : A ∧ B ∧ Below u.heap.size u w') : RowV w' a vs := h.later (hu.trans (k.2.2.mono hu.size))
end
end Go.Proofs.Ytabhjnpmmjmaiab
