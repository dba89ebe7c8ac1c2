/- A list of bytes that came in: what it holds. Conditions: none beyond those of each theorem. -/
import Derived.Test.YtagjlfnlbfgfaaaBu12
import Derived.Test.YtagjlfnlbfgfaaaBu28
namespace Go.Proofs.Ytagjlfnlbfgfaaa
open Go Ieee Go.RowKit Go.Deep Go.ChangeShapes Go.WideShapes

theorem open_rowB {H : Type} {enc : TypeId × Value → H} {W : World} {base : Nat} {spare : Nat → Bool} {held : Bool} {t e : TypeId} {a : Option Addr} {len cap : Nat} {d : DataW H} {ps : List MemPlace} (ht : Try.prog.underlying t = some (.slice e)) (he : Try.prog.underlying e = some (.int .u8)) (hc : Try.prog.cellsOf e = 1)
    (h : DataW.Trod enc Try.prog W base spare held t (.slice a len cap) d ps) : ∃ xs : List Int, len = xs.length ∧ RowV W a (bvals xs) ∧ (∀ z ∈ xs, 0 ≤ z ∧ z < 256) ∧ len ≤ maxLen := by
  obtain ⟨fuel, hf⟩ := h
  rcases Deep.open_slice1 ht hc hf with ⟨hcs, _⟩ | ⟨x, l, c, m, n, V, D, Pl, hcs, _, hl, hm, hmm, _, hx⟩
  · simp [Value.cells] at hcs
    obtain ⟨rfl, rfl, rfl⟩ := hcs
    exact ⟨[], rfl, (fun i u hu => by simp [bvals] at hu), (fun z hz => by cases hz), (by unfold maxLen; omega)⟩
  · simp [Value.cells] at hcs
    obtain ⟨rfl, rfl, rfl⟩ := hcs
    have hlm : len ≤ m := by rw [hmm]; split <;> omega
    have each : ∀ i, i < len → ∃ b, V i = .int .u8 b ∧ 0 ≤ b ∧ b < 256 := fun i hi => by
      obtain ⟨p, hp, hw⟩ := int_field he (hx i (by omega)).2
      simp [Lit.wf, IntKind.min, IntKind.max, IntKind.signed, IntKind.bits] at hw
      exact ⟨p, hp, by omega, by omega⟩
    obtain ⟨f, hf'⟩ := Deep.choose_lt each
    refine ⟨(List.range len).map f, (by simp), ?_, (fun z hz => by
      obtain ⟨i, hi, rfl⟩ := List.mem_map.1 hz
      exact (hf' i (List.mem_range.1 hi)).2), (by omega)⟩
    intro i u hu
    have hi : i < len := by
      have := (List.getElem?_eq_some_iff.1 hu).1
      simpa [bvals] using this
    have hu' : u = .int .u8 (f i) := by
      simp [bvals, hi] at hu
      exact hu.symm
    have hc' := (hx i (by omega)).1
    rw [(hf' i hi).1] at hc'
    obtain ⟨b, off, spot⟩ := x
    have hs : spot = none := by simpa [Addr.add] using World.cell?_spot (hx 0 (by omega)).1
    subst hs
    refine ⟨b, off, rfl, ?_⟩
    rw [hu', ← hc']
    by_cases h0 : i = 0
    · subst h0; rfl
    · simp [Addr.add, h0]
end Go.Proofs.Ytagjlfnlbfgfaaa
