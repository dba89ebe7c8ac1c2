/- Indices of cells for which something holds: the program's loop, for any test. Conditions: none beyond those of each theorem. -/
import Derived.Test.YtedfbaeajofmnaaFarA
import Derived.Test.YtedfbaeajofmnaaBu7
import Derived.Test.YtedfbaeajofmnaaCallV
namespace Go.Proofs.Ytedfbaeajofmnaa
open Go Ieee Go.RowKit
set_option linter.unusedVariables false

def selL (p : Nat → Bool) (k : Nat) : List Int := ((List.range k).filter p).map fun (i : Nat) => (i : Int)

theorem selL_zero (p : Nat → Bool) : selL p 0 = [] := rfl
theorem selL_yes {p : Nat → Bool} {k : Nat} (h : p k = true) : selL p (k + 1) = selL p k ++ [(k : Int)] := by
  unfold selL; rw [List.range_succ, List.filter_append, List.map_append]; simp [List.filter_cons, h]
theorem selL_no {p : Nat → Bool} {k : Nat} (h : p k = false) : selL p (k + 1) = selL p k := by
  unfold selL; rw [List.range_succ, List.filter_append, List.map_append]; simp [List.filter_cons, h]
theorem selL_few (p : Nat → Bool) (k : Nat) : (selL p k).length ≤ k := by
  unfold selL; rw [List.length_map]; have := List.length_filter_le p (List.range k); rw [List.length_range] at this; exact this

theorem outsI_later {w wr u : World} {v : Value} {zs : List Int} (h : OutsI w wr v zs) (q : Below wr.heap.size wr u) : OutsI w u v zs := by
  refine ⟨⟨h.1.1, ?_⟩, h.2.trans (q.mono h.2.size)⟩
  rcases h.1.2 with h0 | ⟨g, cap, cur, hv, hg, hh, r⟩
  · exact .inl h0
  · exact .inr ⟨g, cap, cur, hv, hg, (q.block g (Array.getElem?_eq_some_iff.1 hh).1).trans hh, r⟩

end Go.Proofs.Ytedfbaeajofmnaa
