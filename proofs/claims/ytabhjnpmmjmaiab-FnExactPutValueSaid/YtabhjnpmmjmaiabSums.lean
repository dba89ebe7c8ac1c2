/- Sums and products of lists of floats, the program's and the model's. Conditions: none beyond those of each theorem. -/
import Derived.Test.YtabhjnpmmjmaiabEqs
namespace Go.Proofs.Ytabhjnpmmjmaiab
open Go Ieee Go.RowKit

/-- a float comes back, known up to a NaN's bits, and nothing but draws was done -/
def FRet (w : World) (f : Nat → Value) (S : Option Nat) (e : Ending) (w' : World) : Prop := ∃ r n, e = .returned (f r) ∧ w' = w.drewN n ∧ canon .f32 r = S ∧ r < 2 ^ 32

def fsum (xs : List Nat) : Option Nat := xs.foldl (fun s x => fop .add .f32 s (canon .f32 x)) (some 0)

def few (n : Nat) : Bool := decide (n ≤ 256)
def fsumAll (xs : List Nat) : Option Nat := if xs.length ≤ 256 then fsum xs else some 0
theorem few_yes {n : Nat} (h : n ≤ 256) : few n = true := decide_eq_true h
theorem few_no {n : Nat} (h : ¬ n ≤ 256) : few n = false := decide_eq_false h

theorem fsum_take {xs : List Nat} {k : Nat} (h : k < xs.length) : fsum (xs.take (k + 1)) = fop .add .f32 (fsum (xs.take k)) (canon .f32 xs[k]) := by
  unfold fsum; rw [List.take_succ_eq_append_getElem h, List.foldl_append]; rfl

/-- a slice of floats that came in -/
theorem open_rowF {H : Type} {enc : TypeId × Value → H} {W : World} {base : Nat} {spare : Nat → Bool} {held : Bool} {t e : TypeId} {a : Option Addr} {len cap : Nat} {d : DataW H} {ps : List MemPlace} (ht : Try.prog.underlying t = some (.slice e)) (he : Try.prog.underlying e = some (.float .f32)) (hc : Try.prog.cellsOf e = 1)
    (h : DataW.Trod enc Try.prog W base spare held t (.slice a len cap) d ps) : ∃ xs : List Nat, len = xs.length ∧ RowV W a (fvals xs) ∧ (∀ x ∈ xs, x < 2 ^ 32) ∧ len ≤ maxLen := by
  obtain ⟨fuel, hf⟩ := h
  rcases Deep.open_slice1 ht hc hf with ⟨hcs, _⟩ | ⟨x, l, c, m, n, V, D, Pl, hcs, _, hl, hm, hmm, _, hx⟩
  · simp [Value.cells] at hcs
    obtain ⟨rfl, rfl, rfl⟩ := hcs
    exact ⟨[], rfl, (fun i u hu => by simp [fvals] at hu), (fun x hx => by cases hx), (by unfold maxLen; omega)⟩
  · simp [Value.cells] at hcs
    obtain ⟨rfl, rfl, rfl⟩ := hcs
    have hlm : len ≤ m := by rw [hmm]; split <;> omega
    have each : ∀ i, i < len → ∃ b, V i = .float .f32 b ∧ b < 2 ^ 32 := fun i hi => by
      have := (hx i (by omega)).2
      cases n with
      | zero => simp [DataW.trod] at this
      | succ n =>
        simp only [DataW.trod, he] at this
        cases hv : V i with
        | float k b =>
          rw [hv] at this
          by_cases hk : k = .f32
          · subst hk
            by_cases hw : (Lit.float .f32 b).wf = true
            · exact ⟨b, rfl, wf_lt hw⟩
            · simp [hw] at this
          · cases k <;> simp_all
        | _ => rw [hv] at this; simp at this
    obtain ⟨f, hf'⟩ := Deep.choose_lt each
    refine ⟨(List.range len).map f, (by simp), ?_, ?_, (by omega)⟩
    · intro i u hu
      have hi : i < len := by
        have := (List.getElem?_eq_some_iff.1 hu).1
        simpa [fvals] using this
      have hu' : u = .float .f32 (f i) := by
        simp [fvals, hi] at hu
        exact hu.symm
      have hc' := (hx i (by omega)).1
      rw [(hf' i hi).1] at hc'
      obtain ⟨b, off, spot⟩ := x
      have hs : spot = none := by simpa [Addr.add] using World.cell?_spot (hx 0 (by omega)).1
      subst hs
      refine ⟨b, off, rfl, ?_⟩
      rw [hu', ← hc']
      by_cases h0 : i = 0
      · subst h0; rfl
      · simp [Addr.add, h0]
    · intro y hy
      obtain ⟨i, hi, rfl⟩ := List.mem_map.1 hy
      exact (hf' i (List.mem_range.1 hi)).2
end Go.Proofs.Ytabhjnpmmjmaiab
