/- The walk of the law on ValidSheet. Conditions: none beyond those of each theorem. -/
import Derived.Test.YtabhjnpmmjmaiabStSheet
import Derived.Test.YtabhjnpmmjmaiabVal
import Derived.Test.YtabhjnpmmjmaiabHeld
namespace Go.Proofs.Ytabhjnpmmjmaiab
open Go Ieee Go.RowKit

set_option maxHeartbeats 4000000 in
theorem fnExactValidSheet_walk (wd hi : Int) (wr : Bool) (a0 a1 : Option Addr) (c0 c1 : Nat) (x0 x1 : List Nat) (w : World) (h0 : RowV w a0 (fvals x0)) (h1 : RowV w a1 (fvals x1)) (hx0 : ∀ x ∈ x0, x < 2 ^ 32) (hx1 : ∀ x ∈ x1, x < 2 ^ 32) (hm0 : x0.length ≤ maxLen) (hm1 : x1.length ≤ maxLen) :
    Calls Try.prog 3 #[.agg #[.int .i64 wd, .int .i64 hi, .bool wr, .slice a0 x0.length c0, .slice a1 x1.length c1]] w fun e w' => e = .returned (.bool true) ∧ Below w.heap.size w w' := by
  have B := (Below.refl w.heap.size w).alloc (Nat.le_refl _) (.cells #[.int .i64 wd, .int .i64 hi, .bool wr, .slice a0 x0.length c0, .slice a1 x1.length c1] 24)
  have A := Blk.new w #[.int .i64 wd, .int .i64 hi, .bool wr, .slice a0 x0.length c0, .slice a1 x1.length c1] 24
  by_cases hs : (x0.length : Int) + (x1.length : Int) ≤ 1048576
  · have hn0 : x0.length ≤ 1048576 := by omega
    have hn1 : x1.length ≤ 1048576 := by omega
    go_enter Try.func3, Try.ntmps3
    go_wp2_with fail
    generalize w.alloc (.cells #[.int .i64 wd, .int .i64 hi, .bool wr, .slice a0 x0.length c0, .slice a1 x1.length c1] 24) = u0 at *
    refine (szSheet_yes _ _ _ _ _ _ _ _ _ _ _ hs (by decide)).mono ?_
    rintro e u1 ⟨rfl, b1⟩
    replace A := A.later b1
    replace B := B.trans (b1.mono B.size)
    clear b1
    obtain ⟨ac, af⟩ := A.open
    have HB := Lib.hid B; clear B
    go_wp2_with fail
    refine (toSheet_any _ _ _ _ _ _ _ _ _ _ (h0.later HB.out) (h1.later HB.out) hn0 hn1).mono ?_
    rintro e u2 ⟨g1, g2, rfl, C1⟩
    replace A := A.later C1.below
    replace HB := Lib.hid (HB.out.trans (C1.below.mono HB.out.size))
    clear ac af
    obtain ⟨ac, af⟩ := A.open
    go_wp2_with fail
    refine (specValidSheet _ _ _ _ _ _ _ _ _ _ C1.o0.row C1.o1.row hm0 hm1).mono ?_
    rintro e u3 ⟨rfl, b3⟩
    replace A := A.later b3
    replace HB := Lib.hid (HB.out.trans (b3.mono HB.out.size))
    clear ac af b3 C1
    obtain ⟨ac, af⟩ := A.open
    go_wp2_with fail
    refine (toSheet_any _ _ _ _ _ _ _ _ _ _ (h0.later HB.out) (h1.later HB.out) hn0 hn1).mono ?_
    rintro e u4 ⟨g3, g4, rfl, C2⟩
    replace A := A.later C2.below
    replace HB := Lib.hid (HB.out.trans (C2.below.mono HB.out.size))
    clear ac af
    obtain ⟨ac, af⟩ := A.open
    go_wp2_with fail
    have X0 := Blk.new u4 #[.int .i64 wd, .int .i64 hi, .bool wr, .slice (some ⟨g3, 0, none⟩) x0.length x0.length, .slice (some ⟨g4, 0, none⟩) x1.length x1.length] 27
    replace A := A.alloc (.cells #[.int .i64 wd, .int .i64 hi, .bool wr, .slice (some ⟨g3, 0, none⟩) x0.length x0.length, .slice (some ⟨g4, 0, none⟩) x1.length x1.length] 27)
    replace HB := Lib.hid (HB.out.alloc HB.out.size (.cells #[.int .i64 wd, .int .i64 hi, .bool wr, .slice (some ⟨g3, 0, none⟩) x0.length x0.length, .slice (some ⟨g4, 0, none⟩) x1.length x1.length] 27))
    have O0 := C2.o0.later ((Below.refl _ _).alloc (Nat.le_refl _) (.cells #[.int .i64 wd, .int .i64 hi, .bool wr, .slice (some ⟨g3, 0, none⟩) x0.length x0.length, .slice (some ⟨g4, 0, none⟩) x1.length x1.length] 27))
    have O1 := C2.o1.later ((Below.refl _ _).alloc (Nat.le_refl _) (.cells #[.int .i64 wd, .int .i64 hi, .bool wr, .slice (some ⟨g3, 0, none⟩) x0.length x0.length, .slice (some ⟨g4, 0, none⟩) x1.length x1.length] 27))
    generalize u4.alloc (.cells #[.int .i64 wd, .int .i64 hi, .bool wr, .slice (some ⟨g3, 0, none⟩) x0.length x0.length, .slice (some ⟨g4, 0, none⟩) x1.length x1.length] 27) = u5 at *
    refine (implValidSheet _ _ _ _ _ _ _ _ _ _ O0.row O1.row hm0 hm1).mono ?_
    rintro e u6 ⟨rfl, b6⟩
    replace A := A.later b6
    replace X0 := X0.later b6
    replace O0 := O0.later b6
    replace O1 := O1.later b6
    replace HB := Lib.hid (HB.out.trans (b6.mono HB.out.size))
    clear ac af b6
    obtain ⟨ac, af⟩ := A.open
    obtain ⟨xc, xf⟩ := X0.open
    go_wp2_with fail
    have O0' := Lib.hid O0; have O1' := Lib.hid O1
    clear O0 O1 xc xf ac af
    go_region_held3 (fun w' => (∀ i, w'.cell? ⟨u4.heap.size, i, none⟩ = (#[.int .i64 wd, .int .i64 hi, .bool wr, .slice (some ⟨g3, 0, none⟩) x0.length x0.length, .slice (some ⟨g4, 0, none⟩) x1.length x1.length] : Array Value)[i]?) ∧ (∀ i, w'.cell? ⟨w.heap.size, i, none⟩ = (#[.int .i64 wd, .int .i64 hi, .bool wr, .slice a0 x0.length c0, .slice a1 x1.length c1] : Array Value)[i]?) ∧ Below u6.heap.size u6 w') (first | exact kept_start X0 A | exact kept_later X0 A (by assumption) (by assumption))
      (first
        | (go_at_call 17; (with_reducible refine (toSheet_any _ _ _ _ _ _ _ _ _ _ (row_kept h0 HB.out (by assumption)) (row_kept h1 HB.out (by assumption)) hn0 hn1).mono ?_); rintro e u7 ⟨g5, g6, rfl, C7⟩; have b7 := C7.below)
        | (go_at_call 19; (with_reducible refine (eqSheet_any _ _ _ _ _ _ _ _ _ _ _ _ _ _ _ _ (row_kept O0'.out.row (Below.refl _ _) (by assumption)) (row_kept O1'.out.row (Below.refl _ _) (by assumption)) C7.o0.row C7.o1.row (SameF.refl hx0) (SameF.refl hx1) hm0 hm1).mono ?_); rintro e u8 ⟨rfl, b8⟩))
    replace HB := Lib.hid ((HB.out.drew.trans (b7.mono HB.out.size)).trans (b8.mono (Nat.le_trans HB.out.size b7.size)))
    go_wp2
    go_ret
    exact ⟨rfl, HB.out⟩
  · go_enter Try.func3, Try.ntmps3
    go_wp2_with fail
    generalize w.alloc (.cells #[.int .i64 wd, .int .i64 hi, .bool wr, .slice a0 x0.length c0, .slice a1 x1.length c1] 24) = u0 at *
    refine (szSheet_no _ _ _ _ _ _ _ _ _ _ _ (by omega) (by decide) (by decide) hm0 hm1).mono ?_
    rintro e u1 ⟨rfl, b1⟩
    replace B := B.trans (b1.mono B.size)
    clear b1
    have HB := Lib.hid B; clear B
    go_wp2
    go_ret
    exact ⟨rfl, HB.out⟩
end Go.Proofs.Ytabhjnpmmjmaiab
