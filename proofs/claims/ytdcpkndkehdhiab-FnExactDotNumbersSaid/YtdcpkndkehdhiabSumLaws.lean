/- The walks of the laws on sums and products of lists of floats. Conditions: none beyond those of each theorem. -/
import Derived.Test.YtdcpkndkehdhiabSums
namespace Go.Proofs.Ytdcpkndkehdhiab
open Go Ieee Go.RowKit

theorem RowV.drawn {w : World} {a : Option Addr} {vs : List Value} (h : RowV w a vs) (n : Nat) : RowV (w.drewN n) a vs := h

theorem Below.lower {B : Nat} {a b c : World} (h1 : Below B a b) (h2 : Below b.heap.size b c) (hB : B ≤ b.heap.size) : Below B a c := h1.trans (h2.mono hB)

set_option maxHeartbeats 1000000 in
theorem fnExactSumNumbers_walk (a : Option Addr) (cap : Nat) (xs : List Nat) (w : World) (hr : RowV w a (fvals xs)) (hb : ∀ x ∈ xs, x < 2 ^ 32) (hm : xs.length ≤ maxLen) :
    Calls Try.prog 3 #[.slice a xs.length cap] w fun e w' => e = .returned (.bool true) ∧ Below w.heap.size w w' := by
  have hmm := hm
  unfold maxLen at hmm
  by_cases hbig : (1048576 : Int) < xs.length
  · go_enter Try.func3, Try.ntmps3
    go_wp2
    go_ret
    exact ⟨rfl, Below.refl _ _⟩
  · have hn : xs.length ≤ 1048576 := by omega
    go_enter Try.func3, Try.ntmps3
    go_wp2_with fail
    refine (toF32s _ _ _ _ hr hn).mono ?_
    rintro e w1 ⟨rfl, own1, bel1⟩
    have OWN1 := Lib.hid own1
    have BEL1 := Lib.hid bel1
    clear own1 bel1
    go_wp2_with fail
    refine (specSumNumbers _ _ _ _ (RowV.of_owned OWN1.out) hm).mono ?_
    rintro e w' ⟨r1, n1, rfl, rfl, hr1, hl1⟩
    have HR1 := Lib.hid hr1
    clear hr1
    go_wp2_with fail
    refine (toF32s _ _ _ _ ((hr.later BEL1.out).drawn n1) hn).mono ?_
    rintro e w2 ⟨rfl, own2, bel2⟩
    simp only [World.heap_drewN] at own2 bel2 ⊢
    have OWN2 := Lib.hid own2
    have b2 : Below w.heap.size w w2 := (below_drewN BEL1.out n1).trans (bel2.mono BEL1.out.size)
    have BEL2 := Lib.hid b2
    clear own2 bel2 b2
    go_wp2_with fail
    refine (implSumNumbers _ _ _ _ (RowV.of_owned OWN2.out) hm).mono ?_
    rintro e w' ⟨r2, n2, rfl, rfl, hr2, hl2⟩
    have HR2 := Lib.hid hr2
    clear hr2
    replace hl1 : r1 < 2 ^ FloatKind.f32.format.width := hl1
    replace hl2 : r2 < 2 ^ FloatKind.f32.format.width := hl2
    go_wp2_with (refine wpList_conv rfl _ _ _ rfl .f32 .f64 (by decide) _ rfl Try.underlying23 Try.underlying28 (by assumption) (fits_widen _) ?_; intro v n hc hv; have HC := Lib.hid hc; clear hc)
    refine (sameFloat_any _ _ _ (conv_same (by assumption) (by assumption) HR2 HR1)).mono ?_
    rintro e w' ⟨rfl, n5, rfl⟩
    go_wp2_with fail
    refine (toF32s _ _ _ _ ((hr.later BEL2.out).drawn _) hn).mono ?_
    rintro e w3 ⟨rfl, own3, bel3⟩
    simp only [World.heap_drewN] at own3 bel3 ⊢
    have OWN3 := Lib.hid own3
    have row2 : RowV w3 (some ⟨w1.heap.size, 0, none⟩) (fvals xs) := RowV.later (w := w2.drewN _) ((RowV.of_owned OWN2.out).drawn _) bel3
    have b3 : Below w.heap.size w w3 := (below_drewN BEL2.out _).trans (bel3.mono BEL2.out.size)
    have BEL3 := Lib.hid b3
    have ROW2 := Lib.hid row2
    clear own3 bel3 b3 row2
    go_wp2_with fail
    refine (eqF32s _ _ _ _ _ _ _ ROW2.out (RowV.of_owned OWN3.out) (SameF.refl hb) hm).mono ?_
    rintro e w' ⟨rfl, n6, rfl⟩
    go_wp2
    go_ret
    exact ⟨rfl, below_drewN BEL3.out _⟩
end Go.Proofs.Ytdcpkndkehdhiab
