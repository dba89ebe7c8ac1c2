/- Fields of a sheet: the model's whole test. Conditions: none beyond those of each theorem. -/
import Derived.Test.YtabhjnpmmjmaiabFit3
namespace Go.Proofs.Ytabhjnpmmjmaiab
open Go Ieee Go.RowKit
set_option linter.unusedVariables false

theorem valid_sides {wd hi : Int} {xs ys : List Nat} (h : validB wd hi xs ys = true) : sidesB wd hi = true := by
  unfold validB at h
  cases k : sidesB wd hi
  · rw [k] at h; cases h
  · rfl

theorem specIsField (wd hi : Int) (wb : Bool) (a b : Option Addr) (ca cb : Nat) (xs ys : List Nat) (a0 a1 a2 : Option Addr) (c0 c1 c2 : Nat) (e x y : List Nat) (w : World) (ha : RowV w a (fvals xs)) (hb : RowV w b (fvals ys)) (hx : xs.length ≤ maxLen) (hy : ys.length ≤ maxLen) (h0 : RowV w a0 (fvals e)) (h1 : RowV w a1 (fvals x)) (h2 : RowV w a2 (fvals y)) (m0 : e.length ≤ maxLen) (m1 : x.length ≤ maxLen) (m2 : y.length ≤ maxLen) :
    Calls Try.prog 27 #[.agg #[.int .i64 wd, .int .i64 hi, .bool wb, .slice a xs.length ca, .slice b ys.length cb], .agg #[.slice a0 e.length c0, .slice a1 x.length c1, .slice a2 y.length c2]] w fun r w' => r = .returned (.bool (fieldB wd hi wb xs ys e x y)) ∧ Below w.heap.size w w' := by
  have hv : fieldB wd hi wb xs ys e x y = (validB wd hi xs ys && fitsB wd hi wb e x y) := rfl
  have HV := Lib.hid hv; clear hv
  have X := (Blk.new w #[.int .i64 wd, .int .i64 hi, .bool wb, .slice a xs.length ca, .slice b ys.length cb] 27).alloc (.cells #[.slice a0 e.length c0, .slice a1 x.length c1, .slice a2 y.length c2] 41)
  have Y := Blk.new1 w (.cells #[.int .i64 wd, .int .i64 hi, .bool wb, .slice a xs.length ca, .slice b ys.length cb] 27) #[.slice a0 e.length c0, .slice a1 x.length c1, .slice a2 y.length c2] 41
  have HB : Hid (Below w.heap.size w ((w.alloc (.cells #[.int .i64 wd, .int .i64 hi, .bool wb, .slice a xs.length ca, .slice b ys.length cb] 27)).alloc (.cells #[.slice a0 e.length c0, .slice a1 x.length c1, .slice a2 y.length c2] 41))) := Lib.hid (((Below.refl w.heap.size w).alloc (Nat.le_refl _) _).alloc (by simp) _)
  go_enter Try.func27, Try.ntmps27
  go_wp2_with fail
  generalize ((w.alloc (.cells #[.int .i64 wd, .int .i64 hi, .bool wb, .slice a xs.length ca, .slice b ys.length cb] 27)).alloc (.cells #[.slice a0 e.length c0, .slice a1 x.length c1, .slice a2 y.length c2] 41)) = u0 at *
  refine (specIs _ _ _ _ _ _ _ _ _ _ _ X (ha.later HB.out) (hb.later HB.out) hx hy).mono ?_
  rintro r w' ⟨rfl, n, rfl⟩
  rcases hs : validB wd hi xs ys with _ | _
  · go_wp2
    go_ret
    exact ⟨by rw [HV.out, hs]; rfl, below_drewN HB.out _⟩
  obtain ⟨s1, s2, s3, s4, _, _⟩ := sides_mul (valid_sides hs)
  go_wp2_with fail
  refine (specFits _ _ _ _ _ _ _ _ _ _ _ _ _ _ _ _ _ _ _ _ _ (X.drewN n) (Y.drewN n) s1 s2 s3 s4 (RowV.drawn (h0.later HB.out) n) (RowV.drawn (h1.later HB.out) n) (RowV.drawn (h2.later HB.out) n) m0 m1 m2).mono ?_
  rintro r w' ⟨rfl, n2, rfl⟩
  go_wp2
  go_ret
  exact ⟨by rw [HV.out, hs]; rfl, below_drewN HB.out _⟩

end Go.Proofs.Ytabhjnpmmjmaiab
