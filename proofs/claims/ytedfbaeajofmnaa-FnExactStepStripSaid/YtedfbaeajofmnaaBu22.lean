/- Several texts in one: facts on floats, lists, memory and the functions that the theorems beside this text use. Conditions: none beyond those of each theorem. -/
import Derived.Test.YtedfbaeajofmnaaBu21
import Derived.Test.YtedfbaeajofmnaaBu18
import Derived.Test.YtedfbaeajofmnaaBu19
import Derived.Test.YtedfbaeajofmnaaBu2

set_option linter.unusedVariables false

section

namespace Go.Proofs.Ytedfbaeajofmnaa
open Go Ieee Go.RowKit
set_option linter.unusedVariables false

/-- a list of these numbers -/
def oL (wd hi : Int) (C : Nat → Option Nat) : List (Option Nat) := (List.range (wd * hi).toNat).map C
def runL (wd hi : Int) (wb : Bool) (xs ys e x y : List Nat) (steps : Int) : Trip := runT wb wd.toNat hi.toNat (nums xs) (nums ys) ⟨nums e, nums x, nums y⟩ steps.toNat
def halfL (wd hi : Int) (wb : Bool) (e x y : List Nat) : Trip := ⟨nums e, halfX wb wd.toNat hi.toNat (nums e) (nums x), halfY wb wd.toNat hi.toNat (nums e) (nums y)⟩
def isRunB (steps : Int) : Bool := decide (0 ≤ steps ∧ steps ≤ 64)
def runB (wd hi : Int) (wb : Bool) (xs ys e x y : List Nat) (steps : Int) : Bool := fieldB wd hi wb xs ys e x y && isRunB steps

theorem is_lag {n : Nat} {l : List Nat} {C : Nat → Option Nat} (h : LAg n l C) (hn : n ≤ 256) : Is l ((List.range n).map C) := by
  refine ⟨?_, h.2.1, by rw [h.1]; exact hn⟩
  unfold cl
  apply List.ext_getElem
  · rw [List.length_map, h.1]; simp
  · intro i h1 h2
    rw [List.getElem_map, List.getElem_map, List.getElem_range, ← h.2.2 i (by simpa using h2)]
    unfold nums
    rw [getD_get (by simpa using h1)]

theorem oL_nat (m k : Nat) (C : Nat → Option Nat) : oL (m : Int) (k : Int) C = (List.range (m * k)).map C := by
  unfold oL; rw [← Int.natCast_mul, Int.toNat_natCast]

theorem own_run {w w' : World} {m k n : Nat} {t : Trip} {g0 g1 g2 : Nat} {e x y : List Nat} (hn : Hid (n = m * k)) (h2 : n ≤ 256) (ht : TAg n e x y t) (o0 : OwnV w' w.heap.size (some ⟨g0, 0, none⟩) (fvals e)) (o1 : OwnV w' w.heap.size (some ⟨g1, 0, none⟩) (fvals x)) (o2 : OwnV w' w.heap.size (some ⟨g2, 0, none⟩) (fvals y)) (b : Below w.heap.size w w') :
    OwnField w w' (oL (m : Int) (k : Int) t.e) (oL (m : Int) (k : Int) t.x) (oL (m : Int) (k : Int) t.y) (some ⟨g0, 0, none⟩) (some ⟨g1, 0, none⟩) (some ⟨g2, 0, none⟩) e x y := by
  rw [oL_nat, oL_nat, oL_nat, ← hn.out]
  exact ⟨o0, o1, o2, is_lag ht.e h2, is_lag ht.x h2, is_lag ht.y h2, b⟩

/-- what a field of a sheet has -/
theorem field_nat {wd hi : Int} {wb : Bool} {xs ys e x y : List Nat} (h : fieldB wd hi wb xs ys e x y = true) : ∃ m k n : Nat, wd = (m : Int) ∧ hi = (k : Int) ∧ n = m * k ∧ 3 ≤ m ∧ m ≤ 16 ∧ 3 ≤ k ∧ k ≤ 16 ∧ xs.length = n ∧ ys.length = n ∧ e.length = n ∧ x.length = n ∧ y.length = n ∧ 0 < n ∧ n ≤ 256 := by
  obtain ⟨p1, _, l0, l1, l2⟩ := field_parts h
  obtain ⟨s1, s2, s3, s4, t1, t2⟩ := sides_mul (valid_sides p1)
  obtain ⟨m, rfl⟩ := Int.eq_ofNat_of_zero_le (show 0 ≤ wd by omega)
  obtain ⟨k, rfl⟩ := Int.eq_ofNat_of_zero_le (show 0 ≤ hi by omega)
  have hv : (xs.length : Int) = (m : Int) * (k : Int) ∧ (ys.length : Int) = (m : Int) * (k : Int) := by
    unfold validB at p1
    simp only [Bool.and_eq_true, decide_eq_true_eq] at p1
    exact ⟨p1.2.1, p1.2.2.1⟩
  rw [← Int.natCast_mul] at hv l0 l1 l2 t1 t2
  exact ⟨m, k, m * k, rfl, rfl, rfl, by omega, by omega, by omega, by omega, by omega, by omega, by omega, by omega, by omega, by omega, by omega⟩

theorem row_at {w : World} {a : Option Addr} {xs : List Nat} (h : RowV w a (fvals xs)) (hp : 0 < xs.length) : ∃ b o, a = some ⟨b, o, none⟩ := by
  obtain ⟨b, o, rfl, _⟩ := h 0 _ (fvals_get hp)
  exact ⟨b, o, rfl⟩

theorem specHalfT (g gf m k n b0 b1 b2 o0 o1 o2 c0 c1 c2 : Nat) (wb : Bool) (v3 v4 : Value) (e x y : List Nat) (w : World) (T : Blk w g #[.int .i64 (m : Int), .int .i64 (k : Int), .bool wb, v3, v4] 29) (Fd : Blk w gf #[.slice (some ⟨b0, o0, none⟩) e.length c0, .slice (some ⟨b1, o1, none⟩) x.length c1, .slice (some ⟨b2, o2, none⟩) y.length c2] 38) (r0 : RowV w (some ⟨b0, o0, none⟩) (fvals e)) (r1 : RowV w (some ⟨b1, o1, none⟩) (fvals x)) (r2 : RowV w (some ⟨b2, o2, none⟩) (fvals y)) (l0 : e.length = n) (l1 : x.length = n) (l2 : y.length = n) (q0 : ∀ z ∈ e, z < 2 ^ 32) (q1 : ∀ z ∈ x, z < 2 ^ 32) (q2 : ∀ z ∈ y, z < 2 ^ 32) (h1 : 3 ≤ m) (h2 : m ≤ 16) (h3 : 3 ≤ k) (h4 : k ≤ 16) (hn : Hid (n = m * k)) :
    Calls Try.prog 127 #[.pointer (some ⟨g, 0, none⟩), .pointer (some ⟨gf, 0, none⟩)] w (RetT w n ⟨nums e, halfX wb m k (nums e) (nums x), halfY wb m k (nums e) (nums y)⟩) :=
  (specHalf g gf m k n b0 b1 b2 o0 o1 o2 c0 c1 c2 wb v3 v4 e x y w T Fd r0 r1 r2 l0 l1 l2 q1 q2 h1 h2 h3 h4 hn).mono fun r w' ⟨g0, g1, g2, k0, k1, k2, xa, ya, hr, p0, p1, p2, ax, ay, _, _, b⟩ => ⟨g0, g1, g2, k0, k1, k2, _, _, _, hr, p0, p1, p2, ⟨lag_self l0 q0, lag_firsts ax, lag_firsts ay⟩, b⟩

end Go.Proofs.Ytedfbaeajofmnaa

end
