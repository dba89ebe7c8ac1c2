/- What a strip among the arguments is when it is opened. Conditions: none beyond those of each theorem. -/
import Derived.Test.YtedfbaeajofmnaaBu12
namespace Go.Proofs.Ytedfbaeajofmnaa
open Go Go.ChangeShapes Go.WideShapes Go.ChangeAt Go.RowKit
set_option linter.unusedVariables false

theorem open_Strip {H : Type} {enc : TypeId × Value → H} {W : World} {base : Nat} {spare : Nat → Bool} {held : Bool} {cs : Array Value} {d : DataW H} {ps : List MemPlace} (hsz : cs.size = Try.prog.cellsOf 26) (h : DataW.Trod enc Try.prog W base spare held 26 (.agg cs) d ps) :
    ∃ (rx : Int) (ry : Int), Value.agg cs = .agg #[.int .i64 rx, .int .i64 ry] ∧ (Lit.int .i64 rx).wf = true ∧ (Lit.int .i64 ry).wf = true := by
  have hC : Try.prog.cellsOf 26 = 2 := by kernel_rfl
  rw [hC] at hsz
  obtain ⟨fuel, hf⟩ := h
  obtain ⟨v0, y0, n0, e0, t0⟩ := field_trod Try.underlying26 (by kernel_rfl) hC hf 0 _ rfl
  obtain ⟨v1, y1, n1, e1, t1⟩ := field_trod Try.underlying26 (by kernel_rfl) hC hf 1 _ rfl
  obtain ⟨rx, rfl, w0⟩ := int_field Try.underlying2 t0
  obtain ⟨ry, rfl, w1⟩ := int_field Try.underlying2 t1
  have hcs : cs = #[.int .i64 rx, .int .i64 ry] := by
    obtain ⟨l⟩ := cs
    match l, hsz with
    | [z0, z1], _ =>
      simp [Value.cells] at e0 e1
      rw [e0, e1]
  exact ⟨rx, ry, by rw [hcs], w0, w1⟩
end Go.Proofs.Ytedfbaeajofmnaa
