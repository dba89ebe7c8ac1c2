/- More of what the walks of the laws carry. Conditions: none beyond those of each theorem. -/
import Derived.Test.YtabhjnpmmjmaiabGot
namespace Go.Proofs.Ytabhjnpmmjmaiab
open Go Ieee Go.RowKit

theorem few_max {ys : List Nat} {m : List (Option Nat)} (h : Is ys m) : ys.length ≤ maxLen := by
  have := h.few
  unfold maxLen; omega

theorem keep1_now {u w'' : World} {g0 : Nat} {c0 : Array Value} {t0 : TypeId} (x0 : Blk u g0 c0 t0) (B : Below u.heap.size u w'') : (∀ i, w''.cell? ⟨g0, i, none⟩ = c0[i]?) ∧ Below u.heap.size u w'' := ⟨(x0.below B x0.lt).open.1, B⟩

theorem keep2_now {u w'' : World} {g0 g1 : Nat} {c0 c1 : Array Value} {t0 t1 : TypeId} (x0 : Blk u g0 c0 t0) (x1 : Blk u g1 c1 t1) (B : Below u.heap.size u w'') : (∀ i, w''.cell? ⟨g0, i, none⟩ = c0[i]?) ∧ (∀ i, w''.cell? ⟨g1, i, none⟩ = c1[i]?) ∧ Below u.heap.size u w'' := ⟨(x0.below B x0.lt).open.1, (x1.below B x1.lt).open.1, B⟩

theorem keep3_now {u w'' : World} {g0 g1 g2 : Nat} {c0 c1 c2 : Array Value} {t0 t1 t2 : TypeId} (x0 : Blk u g0 c0 t0) (x1 : Blk u g1 c1 t1) (x2 : Blk u g2 c2 t2) (B : Below u.heap.size u w'') : (∀ i, w''.cell? ⟨g0, i, none⟩ = c0[i]?) ∧ (∀ i, w''.cell? ⟨g1, i, none⟩ = c1[i]?) ∧ (∀ i, w''.cell? ⟨g2, i, none⟩ = c2[i]?) ∧ Below u.heap.size u w'' := ⟨(x0.below B x0.lt).open.1, (x1.below B x1.lt).open.1, (x2.below B x2.lt).open.1, B⟩

theorem keep4_now {u w'' : World} {g0 g1 g2 g3 : Nat} {c0 c1 c2 c3 : Array Value} {t0 t1 t2 t3 : TypeId} (x0 : Blk u g0 c0 t0) (x1 : Blk u g1 c1 t1) (x2 : Blk u g2 c2 t2) (x3 : Blk u g3 c3 t3) (B : Below u.heap.size u w'') : (∀ i, w''.cell? ⟨g0, i, none⟩ = c0[i]?) ∧ (∀ i, w''.cell? ⟨g1, i, none⟩ = c1[i]?) ∧ (∀ i, w''.cell? ⟨g2, i, none⟩ = c2[i]?) ∧ (∀ i, w''.cell? ⟨g3, i, none⟩ = c3[i]?) ∧ Below u.heap.size u w'' := ⟨(x0.below B x0.lt).open.1, (x1.below B x1.lt).open.1, (x2.below B x2.lt).open.1, (x3.below B x3.lt).open.1, B⟩
end Go.Proofs.Ytabhjnpmmjmaiab
