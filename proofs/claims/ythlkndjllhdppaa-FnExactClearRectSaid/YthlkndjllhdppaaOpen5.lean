/- What a rect among the arguments is when it is opened. Conditions: none beyond those of each theorem. -/
import Derived.Test.YthlkndjllhdppaaBu12
import Derived.Test.YthlkndjllhdppaaRect
namespace Go.Proofs.Ythlkndjllhdppaa
open Go Go.ChangeShapes Go.WideShapes Go.ChangeAt Go.RowKit
set_option linter.unusedVariables false

theorem open_Rect {H : Type} {enc : TypeId × Value → H} {W : World} {base : Nat} {spare : Nat → Bool} {held : Bool} {cs : Array Value} {d : DataW H} {ps : List MemPlace} (hsz : cs.size = Try.prog.cellsOf 37) (h : DataW.Trod enc Try.prog W base spare held 37 (.agg cs) d ps) :
    ∃ (rx : Int) (ry : Int) (rw : Int) (rh : Int), Value.agg cs = .agg #[.int .i64 rx, .int .i64 ry, .int .i64 rw, .int .i64 rh] ∧ (Lit.int .i64 rx).wf = true ∧ (Lit.int .i64 ry).wf = true ∧ (Lit.int .i64 rw).wf = true ∧ (Lit.int .i64 rh).wf = true := by
  have hC : Try.prog.cellsOf 37 = 4 := by kernel_rfl
  rw [hC] at hsz
  obtain ⟨fuel, hf⟩ := h
  obtain ⟨v0, y0, n0, e0, t0⟩ := field_trod Try.underlying37 (by kernel_rfl) hC hf 0 _ rfl
  obtain ⟨v1, y1, n1, e1, t1⟩ := field_trod Try.underlying37 (by kernel_rfl) hC hf 1 _ rfl
  obtain ⟨v2, y2, n2, e2, t2⟩ := field_trod Try.underlying37 (by kernel_rfl) hC hf 2 _ rfl
  obtain ⟨v3, y3, n3, e3, t3⟩ := field_trod Try.underlying37 (by kernel_rfl) hC hf 3 _ rfl
  obtain ⟨rx, rfl, w0⟩ := int_field Try.underlying2 t0
  obtain ⟨ry, rfl, w1⟩ := int_field Try.underlying2 t1
  obtain ⟨rw, rfl, w2⟩ := int_field Try.underlying2 t2
  obtain ⟨rh, rfl, w3⟩ := int_field Try.underlying2 t3
  have hcs : cs = #[.int .i64 rx, .int .i64 ry, .int .i64 rw, .int .i64 rh] := by
    obtain ⟨l⟩ := cs
    match l, hsz with
    | [z0, z1, z2, z3], _ =>
      simp [Value.cells] at e0 e1 e2 e3
      rw [e0, e1, e2, e3]
  exact ⟨rx, ry, rw, rh, by rw [hcs], w0, w1, w2, w3⟩
end Go.Proofs.Ythlkndjllhdppaa
