/- Lists that are copied. Conditions: none beyond those of each theorem. -/
import Derived.Test.YtabhjnpmmjmaiabHelp
namespace Go.Proofs.Ytabhjnpmmjmaiab
open Go Ieee Go.RowKit

theorem ret_i64 {a b : Int} (h : a = b) : Ending.returned (.int .i64 a) = .returned (.int .i64 b) := by rw [h]

theorem apart_ne {g h : Nat} (e : g ≠ h) : Apart (some ⟨g, 0, none⟩) (some ⟨h, 0, none⟩) := fun x y hx hy => by cases hx; cases hy; exact e

theorem ne_block {g h : Nat} (e : g ≠ h) : ∀ x, some (⟨g, 0, none⟩ : Addr) = some x → x.block ≠ h := fun x hx => by cases hx; exact e

theorem copyF (a : Option Addr) (cap : Nat) (xs : List Nat) (w : World) (hr : RowV w a (fvals xs)) (hn : xs.length ≤ 1048576) :
    Calls Try.prog 52 #[.slice a xs.length cap] w fun e w' => e = .returned (.slice (some ⟨w.heap.size, 0, none⟩) xs.length xs.length) ∧ OwnV w' w.heap.size (some ⟨w.heap.size, 0, none⟩) (fvals xs) ∧ Below w.heap.size w w' ∧ w.heap.size < w'.heap.size :=
  (toF32s a cap xs w hr hn).mono fun e w' ⟨he, ho, hb⟩ => by
    have h : OwnV w' w.heap.size (some ⟨w.heap.size, 0, none⟩) (fvals xs) := .of_owned ho
    refine ⟨he, h, hb, ?_⟩
    rcases h with ⟨h, _⟩ | ⟨g, cs, t, h, _, hc, _⟩
    · cases h
    · cases h; exact hc.lt
end Go.Proofs.Ytabhjnpmmjmaiab
