/- Several texts in one: facts on floats, lists, memory and the functions that the theorems beside this text use. Conditions: none beyond those of each theorem. -/
import Derived.Test.YtedfbaeajofmnaaBu0
import Derived.Deep.Fields
import Derived.ChangeArms

set_option linter.unusedVariables false

section

namespace Go.Proofs.Ytedfbaeajofmnaa
open Go Ieee Go.RowKit Go.Deep Go.ChangeShapes Go.WideShapes

section
variable {H : Type} {enc : TypeId × Value → H} {P : Program} {w : World} {base : Nat} {spare : Nat → Bool} {held : Bool}

/-- each field of a struct of one-cell fields reads on its own -/
theorem field_trod {t : TypeId} {fs : Array Field} {fuel : Nat} {cs : List Value} {x : DataW H × List MemPlace} (ht : P.underlying t = some (.struct fs)) (hone : oneCellFields P fs = true) (hC : P.cellsOf t = fs.size) (h : DataW.trod enc P w base spare held fuel t cs = some x) (j : Nat) (f : Field) (hj : fs[j]? = some f) :
    ∃ (v : Value) (y : DataW H × List MemPlace) (n : Nat), cs[j]? = some v ∧ DataW.trod enc P w base spare held n f.type [v] = some y := by
  obtain ⟨ys, n, _, _, hlen, hyl, hf⟩ := DataW.trod_struct ht h
  obtain ⟨ho, hk⟩ := hone_of hone j f hj
  have hj1 : j < fs.size := (Array.getElem?_eq_some_iff.1 hj).1
  have hj2 : j < cs.length := by omega
  have h1 := hf j f hj
  rw [ho, hk, List.drop_eq_getElem_cons hj2, List.getElem?_eq_getElem (by omega : j < ys.length)] at h1
  exact ⟨cs[j], _, n, List.getElem?_eq_getElem hj2, h1⟩

theorem int_field {n : Nat} {t : TypeId} {k : IntKind} {v : Value} {y : DataW H × List MemPlace} (ht : P.underlying t = some (.int k)) (h : DataW.trod enc P w base spare held n t [v] = some y) : ∃ a, v = .int k a ∧ (Lit.int k a).wf = true := by
  obtain ⟨a, ha, _, hw⟩ := DataW.trod_int ht h
  injection ha with ha _
  exact ⟨a, ha, hw⟩

theorem bool_field {n : Nat} {t : TypeId} {v : Value} {y : DataW H × List MemPlace} (ht : P.underlying t = some .bool) (h : DataW.trod enc P w base spare held n t [v] = some y) : ∃ a, v = .bool a := by
  obtain ⟨a, ha, _⟩ := DataW.trod_bool ht h
  injection ha with ha _
  exact ⟨a, ha⟩

theorem slice_field {n : Nat} {t e : TypeId} {v : Value} {y : DataW H × List MemPlace} (ht : P.underlying t = some (.slice e)) (h : DataW.trod enc P w base spare held n t [v] = some y) : ∃ a len cap, v = .slice a len cap := by
  rcases Go.Deep.open_slice ht h with ⟨hc, _⟩ | ⟨a, len, cap, _, _, _, _, hc, _⟩
  · injection hc with hc _; exact ⟨_, _, _, hc⟩
  · injection hc with hc _; exact ⟨_, _, _, hc⟩
end

theorem f32s_field {H : Type} {enc : TypeId × Value → H} {W : World} {base : Nat} {spare : Nat → Bool} {held : Bool} {n : Nat} {v : Value} {y : DataW H × List MemPlace} (h : DataW.trod enc Try.prog W base spare held n 22 [v] = some y) :
    ∃ (a : Option Addr) (c : Nat) (xs : List Nat), v = .slice a xs.length c ∧ RowV W a (fvals xs) ∧ (∀ x ∈ xs, x < 2 ^ 32) ∧ xs.length ≤ maxLen := by
  obtain ⟨a, len, cap, rfl⟩ := slice_field Try.underlying22 h
  obtain ⟨xs, rfl, h1, h2, h3⟩ := open_rowF (d := y.1) (ps := y.2) Try.underlying22 Try.underlying102 (by kernel_rfl) ⟨n, h⟩
  exact ⟨a, cap, xs, rfl, h1, h2, h3⟩

theorem open_Sheet {H : Type} {enc : TypeId × Value → H} {W : World} {base : Nat} {spare : Nat → Bool} {held : Bool} {cs : Array Value} {d : DataW H} {ps : List MemPlace} (hsz : cs.size = Try.prog.cellsOf 24) (h : DataW.Trod enc Try.prog W base spare held 24 (.agg cs) d ps) :
    ∃ (wd hi : Int) (wr : Bool) (a0 a1 : Option Addr) (c0 c1 : Nat) (x0 x1 : List Nat), Value.agg cs = .agg #[.int .i64 wd, .int .i64 hi, .bool wr, .slice a0 x0.length c0, .slice a1 x1.length c1] ∧ (Lit.int .i64 wd).wf = true ∧ (Lit.int .i64 hi).wf = true ∧
      RowV W a0 (fvals x0) ∧ RowV W a1 (fvals x1) ∧ (∀ x ∈ x0, x < 2 ^ 32) ∧ (∀ x ∈ x1, x < 2 ^ 32) ∧ x0.length ≤ maxLen ∧ x1.length ≤ maxLen := by
  have hC : Try.prog.cellsOf 24 = 5 := by kernel_rfl
  rw [hC] at hsz
  obtain ⟨fuel, hf⟩ := h
  obtain ⟨v0, y0, n0, e0, t0⟩ := field_trod Try.underlying24 (by kernel_rfl) hC hf 0 _ rfl
  obtain ⟨v1, y1, n1, e1, t1⟩ := field_trod Try.underlying24 (by kernel_rfl) hC hf 1 _ rfl
  obtain ⟨v2, y2, n2, e2, t2⟩ := field_trod Try.underlying24 (by kernel_rfl) hC hf 2 _ rfl
  obtain ⟨v3, y3, n3, e3, t3⟩ := field_trod Try.underlying24 (by kernel_rfl) hC hf 3 _ rfl
  obtain ⟨v4, y4, n4, e4, t4⟩ := field_trod Try.underlying24 (by kernel_rfl) hC hf 4 _ rfl
  obtain ⟨wd, rfl, w0⟩ := int_field Try.underlying2 t0
  obtain ⟨hi, rfl, w1⟩ := int_field Try.underlying2 t1
  obtain ⟨wr, rfl⟩ := bool_field Try.underlying4 t2
  obtain ⟨a0, c0, x0, rfl, p0, q0, m0⟩ := f32s_field t3
  obtain ⟨a1, c1, x1, rfl, p1, q1, m1⟩ := f32s_field t4
  have hcs : cs = #[.int .i64 wd, .int .i64 hi, .bool wr, .slice a0 x0.length c0, .slice a1 x1.length c1] := by
    obtain ⟨l⟩ := cs
    match l, hsz with
    | [z0, z1, z2, z3, z4], _ =>
      simp [Value.cells] at e0 e1 e2 e3 e4
      rw [e0, e1, e2, e3, e4]
  exact ⟨wd, hi, wr, a0, a1, c0, c1, x0, x1, by rw [hcs], w0, w1, p0, p1, q0, q1, m0, m1⟩

theorem open_Field {H : Type} {enc : TypeId × Value → H} {W : World} {base : Nat} {spare : Nat → Bool} {held : Bool} {cs : Array Value} {d : DataW H} {ps : List MemPlace} (hsz : cs.size = Try.prog.cellsOf 36) (h : DataW.Trod enc Try.prog W base spare held 36 (.agg cs) d ps) :
    ∃ (a0 a1 a2 : Option Addr) (c0 c1 c2 : Nat) (x0 x1 x2 : List Nat), Value.agg cs = .agg #[.slice a0 x0.length c0, .slice a1 x1.length c1, .slice a2 x2.length c2] ∧
      RowV W a0 (fvals x0) ∧ RowV W a1 (fvals x1) ∧ RowV W a2 (fvals x2) ∧ (∀ x ∈ x0, x < 2 ^ 32) ∧ (∀ x ∈ x1, x < 2 ^ 32) ∧ (∀ x ∈ x2, x < 2 ^ 32) ∧ x0.length ≤ maxLen ∧ x1.length ≤ maxLen ∧ x2.length ≤ maxLen := by
  have hC : Try.prog.cellsOf 36 = 3 := by kernel_rfl
  rw [hC] at hsz
  obtain ⟨fuel, hf⟩ := h
  obtain ⟨v0, y0, n0, e0, t0⟩ := field_trod Try.underlying36 (by kernel_rfl) hC hf 0 _ rfl
  obtain ⟨v1, y1, n1, e1, t1⟩ := field_trod Try.underlying36 (by kernel_rfl) hC hf 1 _ rfl
  obtain ⟨v2, y2, n2, e2, t2⟩ := field_trod Try.underlying36 (by kernel_rfl) hC hf 2 _ rfl
  obtain ⟨a0, c0, x0, rfl, p0, q0, m0⟩ := f32s_field t0
  obtain ⟨a1, c1, x1, rfl, p1, q1, m1⟩ := f32s_field t1
  obtain ⟨a2, c2, x2, rfl, p2, q2, m2⟩ := f32s_field t2
  have hcs : cs = #[.slice a0 x0.length c0, .slice a1 x1.length c1, .slice a2 x2.length c2] := by
    obtain ⟨l⟩ := cs
    match l, hsz with
    | [z0, z1, z2], _ =>
      simp [Value.cells] at e0 e1 e2
      rw [e0, e1, e2]
  exact ⟨a0, a1, a2, c0, c1, c2, x0, x1, x2, by rw [hcs], p0, p1, p2, q0, q1, q2, m0, m1, m2⟩
end Go.Proofs.Ytedfbaeajofmnaa

end
