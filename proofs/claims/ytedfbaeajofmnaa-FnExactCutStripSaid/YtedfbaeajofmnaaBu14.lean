/- Several texts in one: facts on floats, lists, memory and the functions that the theorems beside this text use. Conditions: none beyond those of each theorem. -/
import Derived.Test.YtedfbaeajofmnaaBu7
import Derived.Test.YtedfbaeajofmnaaBu5

set_option linter.unusedVariables false

section

namespace Go.Proofs.Ytedfbaeajofmnaa
open Go Ieee Go.RowKit
set_option linter.unusedVariables false

structure GotList (B : Nat) (w w' : World) (m : List (Option Nat)) (a : Option Addr) (y : List Nat) : Prop where
  o : OwnV w' B a (fvals y)
  s : Is y m
  below : Below B w w'

theorem GotList.none {B : Nat} {w w' : World} (b : Below B w w') : GotList B w w' [] none [] := ⟨nil_own _ _, Is.nil, b⟩

def GaveL (w : World) (b : Bool) (z : List Nat) (r : Ending) (w' : World) : Prop :=
  ∃ (a : Option Addr) (c : Nat) (y : List Nat), r = .returned (.tuple #[.slice a y.length c, .bool b]) ∧ GotList w.heap.size w w' (ifL b z) a y

theorem implIndexQ0 (wd hi x y : Int) (wb : Bool) (q : Nat) (w : World) (hq : Hid (x + wd * y = (q : Int))) (k1 : 0 ≤ wd * y) (k2 : wd * y ≤ 256) (k3 : 0 ≤ x) (k4 : x ≤ 256) : Calls Try.prog 117 #[.agg #[.int .i64 wd, .int .i64 hi, .bool wb], .agg #[.int .i64 x, .int .i64 y]] w fun e w' => e = .returned (.int .i64 (q : Int)) ∧ Below w.heap.size w w' :=
  (implIndexOf wd hi x y wb w k1 k2 k3 k4).mono fun e w' ⟨h, b⟩ => ⟨by rw [h, hq.out], b⟩

set_option maxHeartbeats 4000000 in
theorem specBoth (g gf : Nat) (wd hi : Int) (wb : Bool) (a b : Option Addr) (ca cb : Nat) (xs ys : List Nat) (a0 a1 a2 : Option Addr) (c0 c1 c2 : Nat) (e x y : List Nat) (w : World) (hg : Blk w g #[.int .i64 wd, .int .i64 hi, .bool wb, .slice a xs.length ca, .slice b ys.length cb] 29) (hgf : Blk w gf #[.slice a0 e.length c0, .slice a1 x.length c1, .slice a2 y.length c2] 38) (ha : RowV w a (fvals xs)) (hb : RowV w b (fvals ys)) (hx : xs.length ≤ maxLen) (hy : ys.length ≤ maxLen) (h0 : RowV w a0 (fvals e)) (h1 : RowV w a1 (fvals x)) (h2 : RowV w a2 (fvals y)) (m0 : e.length ≤ maxLen) (m1 : x.length ≤ maxLen) (m2 : y.length ≤ maxLen) :
    Calls Try.prog 60 #[.pointer (some ⟨g, 0, none⟩), .pointer (some ⟨gf, 0, none⟩)] w fun r w' => r = .returned (.bool (fieldB wd hi wb xs ys e x y)) ∧ ∃ n, w' = w.drewN n := by
  have hfb : fieldB wd hi wb xs ys e x y = (validB wd hi xs ys && fitsB wd hi wb e x y) := rfl
  rw [hfb]; clear hfb
  rcases hs : validB wd hi xs ys with _ | _
  · skip
    have H_hs := Lib.hid hs; clear hs
    go_enter Try.func60, Try.ntmps60
    go_wp2_with fail
    refine (specIs _ _ _ _ _ _ _ _ _ _ _ hg ha hb hx hy).mono ?_
    rintro r w' ⟨rfl, nq, hw⟩
    rw [H_hs.out]
    go_wp2
    go_ret
    exact ⟨rfl, nq, rfl⟩
  · skip
    obtain ⟨s1, s2, s3, s4, t1, t2⟩ := sides_mul (valid_sides hs)
    have H_hs := Lib.hid hs; clear hs t1 t2
    go_enter Try.func60, Try.ntmps60
    go_wp2_with fail
    refine (specIs _ _ _ _ _ _ _ _ _ _ _ hg ha hb hx hy).mono ?_
    rintro r w' ⟨rfl, nq, hw⟩
    rw [H_hs.out]
    subst hw
    go_wp2_with fail
    refine (specFits _ _ _ _ _ _ _ _ _ _ _ _ _ _ _ _ _ _ _ _ _ (hg.drewN nq) (hgf.drewN nq) s1 s2 s3 s4 (RowV.drawn h0 nq) (RowV.drawn h1 nq) (RowV.drawn h2 nq) m0 m1 m2).mono ?_
    rintro r w' ⟨rfl, nr, hw⟩
    go_wp2
    go_ret
    exact ⟨by simp, nq + nr, rfl⟩

end Go.Proofs.Ytedfbaeajofmnaa

end
