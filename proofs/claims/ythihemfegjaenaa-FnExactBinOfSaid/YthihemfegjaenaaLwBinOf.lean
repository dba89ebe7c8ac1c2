/- The walk of the law on BinOf. Conditions: none beyond those of each theorem. -/
import Derived.Test.YthihemfegjaenaaBu26
import Derived.Test.YthihemfegjaenaaBu24
import Derived.Test.YthihemfegjaenaaBu2
namespace Go.Proofs.Ythihemfegjaenaa
open Go Ieee Go.RowKit
set_option linter.unusedVariables false
set_option linter.unusedSimpArgs false

set_option maxHeartbeats 16000000 in
set_option maxRecDepth 100000 in
theorem fnExactBinOf_walk (a0_0 : Option Addr) (c0_0 : Nat) (x0_0 : List Nat) (a1 : Nat) (w : World) (r0_0 : RowV w a0_0 (fvals x0_0)) (b0_0 : ∀ x ∈ x0_0, x < 2 ^ 32) (m0_0 : x0_0.length ≤ maxLen) (w1 : a1 < 2 ^ 32) :
    Calls Try.prog 9 #[.slice a0_0 x0_0.length c0_0, .float .f32 a1] w fun e w' => e = .returned (.bool true) ∧ Below w.heap.size w w' := by
  have HB : Hid (Below w.heap.size w w) := Lib.hid (Below.refl w.heap.size w)
  by_cases hn0 : (x0_0.length : Int) ≤ 1048576
  · skip
    have n0_0 : x0_0.length ≤ 1048576 := by omega
    go_enter Try.func9, Try.ntmps9
    have zh := HB.out.size
    go_wp2_with fail
    refine (tof32s_any _ _ _ _ (r0_0.later HB.out) n0_0).mono ?_
    rintro e V1 ⟨gw0_0, rfl, Cw0⟩
    replace HB := Lib.hid (HB.out.trans (Cw0.below.mono HB.out.size))
    have sz1 : w.heap.size ≤ V1.heap.size := Cw0.below.size
    go_wp2_with fail
    refine (specBinOfL _ _ _ _ _ Cw0.o0.row b0_0 m0_0 w1).mono ?_
    rintro e V2 ⟨pw, qw, rfl, hpw, hqw, lpw, lqw, bw⟩
    have HPw := Lib.hid hpw; have HQw := Lib.hid hqw; clear hpw hqw; replace lpw : pw < 2 ^ FloatKind.f32.format.width := lpw; replace lqw : qw < 2 ^ FloatKind.f32.format.width := lqw
    replace HB := Lib.hid (HB.out.trans (bw.mono HB.out.size))
    have sz2 : V1.heap.size ≤ V2.heap.size := bw.size
    go_wp2_with fail
    refine (tof32s_any _ _ _ _ (r0_0.later HB.out) n0_0).mono ?_
    rintro e V3 ⟨gx0_0, rfl, Cx0⟩
    replace HB := Lib.hid (HB.out.trans (Cx0.below.mono HB.out.size))
    have sz3 : V2.heap.size ≤ V3.heap.size := Cx0.below.size
    have O0_0 := Lib.hid Cx0.o0
    have so0_0 := Cx0.o0.span
    go_wp2_with fail
    refine (implBinOfL _ _ _ _ _ O0_0.out.row b0_0 m0_0 w1).mono ?_
    rintro e V4 ⟨pi, qi, rfl, hpi, hqi, lpi, lqi, bi⟩
    have HPi := Lib.hid hpi; have HQi := Lib.hid hqi; clear hpi hqi; replace lpi : pi < 2 ^ FloatKind.f32.format.width := lpi; replace lqi : qi < 2 ^ FloatKind.f32.format.width := lqi
    replace O0_0 := Lib.hid (O0_0.out.later bi)
    replace HB := Lib.hid (HB.out.trans (bi.mono HB.out.size))
    have sz4 : V3.heap.size ≤ V4.heap.size := bi.size
    have tka : True := trivial; have tkb : True := trivial
    go_wp2_with (first | (have _t := tka; refine wpList_cconv rfl _ _ _ rfl .f32 .f64 (by decide) _ _ rfl Try.underlying60 Try.underlying64 lpi lqi (fits_widen _) (fits_widen _) ?_; intro ka kb nka h1 h2; have KA1 := Lib.hid h1; have KA2 := Lib.hid h2; clear h1 h2 _t tka) | (have _t := tkb; refine wpList_cconv rfl _ _ _ rfl .f32 .f64 (by decide) _ _ rfl Try.underlying60 Try.underlying64 lpw lqw (fits_widen _) (fits_widen _) ?_; intro kc kd nkc h1 h2; have KC1 := Lib.hid h1; have KC2 := Lib.hid h2; clear h1 h2 _t tkb))
    refine (sameComplex_any _ _ _ _ _ (by rw [KA1.out, KC1.out, HPi.out, HPw.out]) (by rw [KA2.out, KC2.out, HQi.out, HQw.out])).mono ?_
    rintro e V5 ⟨rfl, nq, hw⟩
    have q : Below V4.heap.size V4 V5 := by
      rw [hw]
      first | exact below_drewN (Below.refl _ _) _ | exact below_drewN (below_drewN (Below.refl _ _) _) _ | exact below_drewN (below_drewN (below_drewN (Below.refl _ _) _) _) _
    clear hw
    replace O0_0 := Lib.hid (O0_0.out.later q)
    replace HB := Lib.hid (HB.out.trans (q.mono HB.out.size))
    have sz5 : V4.heap.size ≤ V5.heap.size := q.size
    clear q
    go_wp2_with fail
    refine (tof32s_any _ _ _ _ (r0_0.later HB.out) n0_0).mono ?_
    rintro e V6 ⟨ge0_0, rfl, Ce0⟩
    replace O0_0 := Lib.hid (O0_0.out.later Ce0.below)
    replace HB := Lib.hid (HB.out.trans (Ce0.below.mono HB.out.size))
    have sz6 : V5.heap.size ≤ V6.heap.size := Ce0.below.size
    go_wp2_with fail
    refine (eqf32s_any _ _ _ _ _ _ O0_0.out.row Ce0.o0.row b0_0 m0_0).mono ?_
    rintro e V7 ⟨rfl, q⟩
    replace O0_0 := Lib.hid (O0_0.out.later q)
    replace HB := Lib.hid (HB.out.trans (q.mono HB.out.size))
    have sz7 : V6.heap.size ≤ V7.heap.size := q.size
    clear q
    go_wp2
    go_ret
    exact ⟨rfl, HB.out⟩
  · skip
    have hm0 := m0_0; unfold maxLen at hm0
    have hp0 : (x0_0.length : Int) > 1048576 := by omega
    go_enter Try.func9, Try.ntmps9
    go_wp2
    go_ret
    exact ⟨rfl, HB.out⟩
end Go.Proofs.Ythihemfegjaenaa
