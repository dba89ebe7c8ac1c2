/- A list of integers that came in: what it holds. Conditions: none beyond those of each theorem. -/
import Derived.Test.YthihemfegjaenaaBu12
namespace Go.Proofs.Ythihemfegjaenaa
open Go Ieee Go.RowKit Go.Deep Go.ChangeShapes Go.WideShapes

theorem open_rowI {H : Type} {enc : TypeId × Value → H} {W : World} {base : Nat} {spare : Nat → Bool} {held : Bool} {t e : TypeId} {a : Option Addr} {len cap : Nat} {d : DataW H} {ps : List MemPlace} (ht : Try.prog.underlying t = some (.slice e)) (he : Try.prog.underlying e = some (.int .i64)) (hc : Try.prog.cellsOf e = 1)
    (h : DataW.Trod enc Try.prog W base spare held t (.slice a len cap) d ps) : ∃ xs : List Int, len = xs.length ∧ RowV W a (ivals xs) ∧ len ≤ maxLen := by
  obtain ⟨fuel, hf⟩ := h
  rcases Deep.open_slice1 ht hc hf with ⟨hcs, _⟩ | ⟨x, l, c, m, n, V, D, Pl, hcs, _, hl, hm, hmm, _, hx⟩
  · simp [Value.cells] at hcs
    obtain ⟨rfl, rfl, rfl⟩ := hcs
    exact ⟨[], rfl, (fun i u hu => by simp [ivals] at hu), (by unfold maxLen; omega)⟩
  · simp [Value.cells] at hcs
    obtain ⟨rfl, rfl, rfl⟩ := hcs
    have hlm : len ≤ m := by rw [hmm]; split <;> omega
    have each : ∀ i, i < len → ∃ b, V i = .int .i64 b := fun i hi => by
      obtain ⟨p, hp, _⟩ := int_field he (hx i (by omega)).2
      exact ⟨p, hp⟩
    obtain ⟨f, hf'⟩ := Deep.choose_lt each
    refine ⟨(List.range len).map f, (by simp), ?_, (by omega)⟩
    intro i u hu
    have hi : i < len := by
      have := (List.getElem?_eq_some_iff.1 hu).1
      simpa [ivals] using this
    have hu' : u = .int .i64 (f i) := by
      simp [ivals, hi] at hu
      exact hu.symm
    have hc' := (hx i (by omega)).1
    rw [hf' i hi] at hc'
    obtain ⟨b, off, spot⟩ := x
    have hs : spot = none := by simpa [Addr.add] using World.cell?_spot (hx 0 (by omega)).1
    subst hs
    refine ⟨b, off, rfl, ?_⟩
    rw [hu', ← hc']
    by_cases h0 : i = 0
    · subst h0; rfl
    · simp [Addr.add, h0]
end Go.Proofs.Ythihemfegjaenaa
