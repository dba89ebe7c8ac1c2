/- Lists in which the numbers of some cells are made anew. Conditions: none beyond those of each theorem. -/
import Derived.Test.YtedfbaeajofmnaaBu2
import Derived.Test.YtedfbaeajofmnaaBu5
namespace Go.Proofs.Ytedfbaeajofmnaa
open Go Ieee Go.RowKit
set_option linter.unusedVariables false

/-- a list in which the numbers of some cells are others -/
def chgC (p : Nat → Bool) (G : Nat → Option Nat) (xs : List Nat) : List (Option Nat) := (List.range xs.length).map fun i => if p i then G i else canon .f32 (xs.getD i 0)

/-- such a list behind k cells -/
structure ChgTo (p : Nat → Bool) (G : Nat → Option Nat) (xs : List Nat) (k : Nat) (L : List Nat) : Prop where
  len : L.length = xs.length
  lt : ∀ z ∈ L, z < 2 ^ 32
  num : ∀ j, j < xs.length → j < k → canon .f32 (L.getD j 0) = if p j then G j else canon .f32 (xs.getD j 0)
  rest : ∀ j, k ≤ j → L[j]? = xs[j]?

theorem ChgTo.start {p : Nat → Bool} {G : Nat → Option Nat} {xs : List Nat} (h : ∀ z ∈ xs, z < 2 ^ 32) : ChgTo p G xs 0 xs := ⟨rfl, h, fun _ _ h => by omega, fun _ _ => rfl⟩

theorem ChgTo.at {p : Nat → Bool} {G : Nat → Option Nat} {xs L : List Nat} {k : Nat} (h : ChgTo p G xs k L) (hk : k < xs.length) (hl : k < L.length) : L[k] = xs[k] := by
  have := h.rest k (Nat.le_refl _)
  rw [List.getElem?_eq_getElem hl, List.getElem?_eq_getElem hk] at this
  injection this

theorem ChgTo.yes {p : Nat → Bool} {G : Nat → Option Nat} {xs L : List Nat} {k v : Nat} (h : ChgTo p G xs k L) (hk : k < xs.length) (hp : p k = true) (hv : v < 2 ^ 32) (hc : canon .f32 v = G k) : ChgTo p G xs (k + 1) (L.set k v) := by
  refine ⟨by rw [List.length_set]; exact h.len, fun z hz => ?_, fun j hj hjk => ?_, fun j hj => ?_⟩
  · rcases List.mem_or_eq_of_mem_set hz with h' | h'
    · exact h.lt _ h'
    · rw [h']; exact hv
  · by_cases e : j = k
    · subst e
      rw [hp, getD_get (by rw [List.length_set, h.len]; exact hj), List.getElem_set_self]; exact hc
    · rw [List.getD_eq_getElem?_getD, List.getElem?_set, if_neg (by omega), ← List.getD_eq_getElem?_getD]
      exact h.num j hj (by omega)
  · rw [List.getElem?_set, if_neg (by omega)]; exact h.rest j (by omega)

theorem ChgTo.no {p : Nat → Bool} {G : Nat → Option Nat} {xs L : List Nat} {k : Nat} (h : ChgTo p G xs k L) (hp : p k = false) : ChgTo p G xs (k + 1) L := by
  refine ⟨h.len, h.lt, fun j hj hjk => ?_, fun j hj => h.rest j (by omega)⟩
  by_cases e : j = k
  · subst e
    rw [hp, if_neg (by decide), List.getD_eq_getElem?_getD, h.rest j (Nat.le_refl _), List.getD_eq_getElem?_getD]
  · exact h.num j hj (by omega)

theorem ChgTo.all {p : Nat → Bool} {G : Nat → Option Nat} {xs L : List Nat} {k : Nat} (h : ChgTo p G xs k L) (hk : xs.length ≤ k) (hf : xs.length ≤ 256) : Is L (chgC p G xs) := by
  refine ⟨?_, h.lt, by rw [h.len]; exact hf⟩
  apply List.ext_getElem
  · unfold cl chgC; rw [List.length_map, List.length_map, List.length_range, h.len]
  · intro i hi hi'
    have h1 : i < L.length := by rw [cl_length] at hi; exact hi
    have h2 : i < xs.length := by rw [← h.len]; exact h1
    unfold cl chgC at *
    rw [List.getElem_map, List.getElem_map, List.getElem_range, ← getD_get h1]
    exact h.num i h2 (by omega)

theorem chgC_length (p : Nat → Bool) (G : Nat → Option Nat) (xs : List Nat) : (chgC p G xs).length = xs.length := by unfold chgC; rw [List.length_map, List.length_range]

theorem chgC_congr {p q : Nat → Bool} {G H : Nat → Option Nat} {xs : List Nat} (h : ∀ i, i < xs.length → p i = q i) (hG : ∀ i, i < xs.length → p i = true → G i = H i) : chgC p G xs = chgC q H xs := by
  unfold chgC
  apply List.map_congr_left
  intro i hi
  have hi' := List.mem_range.1 hi
  rw [← h i hi']
  split
  · rename_i hp; exact hG i hi' hp
  · rfl

end Go.Proofs.Ytedfbaeajofmnaa
