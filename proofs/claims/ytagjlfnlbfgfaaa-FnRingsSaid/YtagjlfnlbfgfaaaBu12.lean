/- Several texts in one: facts on floats, lists, memory and the functions that the theorems beside this text use. Conditions: none beyond those of each theorem. -/
import Derived.Test.YtagjlfnlbfgfaaaBu0
import Derived.Deep.Fields
import Derived.ChangeArms

set_option linter.unusedVariables false

section

namespace Go.Proofs.Ytagjlfnlbfgfaaa
open Go Ieee Go.RowKit Go.Deep Go.ChangeShapes Go.WideShapes

section
variable {H : Type} {enc : TypeId × Value → H} {P : Program} {w : World} {base : Nat} {spare : Nat → Bool} {held : Bool}

/-- each field of a struct of one-cell fields reads on its own -/
theorem field_trod {t : TypeId} {fs : Array Field} {fuel : Nat} {cs : List Value} {x : DataW H × List MemPlace} (ht : P.underlying t = some (.struct fs)) (hone : oneCellFields P fs = true) (hC : P.cellsOf t = fs.size) (h : DataW.trod enc P w base spare held fuel t cs = some x) (j : Nat) (f : Field) (hj : fs[j]? = some f) :
    ∃ (v : Value) (y : DataW H × List MemPlace) (n : Nat), cs[j]? = some v ∧ DataW.trod enc P w base spare held n f.type [v] = some y := by
  obtain ⟨ys, n, _, _, hlen, hyl, hf⟩ := DataW.trod_struct ht h
  obtain ⟨ho, hk⟩ := hone_of hone j f hj
  have hj1 : j < fs.size := (Array.getElem?_eq_some_iff.1 hj).1
  have hj2 : j < cs.length := by omega
  have h1 := hf j f hj
  rw [ho, hk, List.drop_eq_getElem_cons hj2, List.getElem?_eq_getElem (by omega : j < ys.length)] at h1
  exact ⟨cs[j], _, n, List.getElem?_eq_getElem hj2, h1⟩

theorem int_field {n : Nat} {t : TypeId} {k : IntKind} {v : Value} {y : DataW H × List MemPlace} (ht : P.underlying t = some (.int k)) (h : DataW.trod enc P w base spare held n t [v] = some y) : ∃ a, v = .int k a ∧ (Lit.int k a).wf = true := by
  obtain ⟨a, ha, _, hw⟩ := DataW.trod_int ht h
  injection ha with ha _
  exact ⟨a, ha, hw⟩

theorem bool_field {n : Nat} {t : TypeId} {v : Value} {y : DataW H × List MemPlace} (ht : P.underlying t = some .bool) (h : DataW.trod enc P w base spare held n t [v] = some y) : ∃ a, v = .bool a := by
  obtain ⟨a, ha, _⟩ := DataW.trod_bool ht h
  injection ha with ha _
  exact ⟨a, ha⟩

theorem slice_field {n : Nat} {t e : TypeId} {v : Value} {y : DataW H × List MemPlace} (ht : P.underlying t = some (.slice e)) (h : DataW.trod enc P w base spare held n t [v] = some y) : ∃ a len cap, v = .slice a len cap := by
  rcases Go.Deep.open_slice ht h with ⟨hc, _⟩ | ⟨a, len, cap, _, _, _, _, hc, _⟩
  · injection hc with hc _; exact ⟨_, _, _, hc⟩
  · injection hc with hc _; exact ⟨_, _, _, hc⟩
end

theorem f32s_field {H : Type} {enc : TypeId × Value → H} {W : World} {base : Nat} {spare : Nat → Bool} {held : Bool} {n : Nat} {v : Value} {y : DataW H × List MemPlace} (h : DataW.trod enc Try.prog W base spare held n 24 [v] = some y) :
    ∃ (a : Option Addr) (c : Nat) (xs : List Nat), v = .slice a xs.length c ∧ RowV W a (fvals xs) ∧ (∀ x ∈ xs, x < 2 ^ 32) ∧ xs.length ≤ maxLen := by
  obtain ⟨a, len, cap, rfl⟩ := slice_field Try.underlying24 h
  obtain ⟨xs, rfl, h1, h2, h3⟩ := open_rowF (d := y.1) (ps := y.2) Try.underlying24 Try.underlying58 (by kernel_rfl) ⟨n, h⟩
  exact ⟨a, cap, xs, rfl, h1, h2, h3⟩

end Go.Proofs.Ytagjlfnlbfgfaaa

end
