/- Several texts in one: facts on floats, lists, memory and the functions that the theorems beside this text use. Conditions: none beyond those of each theorem. -/
import Derived.Test.YtedfbaeajofmnabBu7
import Derived.Test.YtedfbaeajofmnabBu5
import Derived.Deep.RegionHeld3
import Derived.Deep.AppendLies

set_option linter.unusedVariables false

section

namespace Go.Proofs.Ytedfbaeajofmnab
open Go Ieee Go.RowKit
set_option linter.unusedVariables false

structure GotList (B : Nat) (w w' : World) (m : List (Option Nat)) (a : Option Addr) (y : List Nat) : Prop where
  o : OwnV w' B a (fvals y)
  s : Is y m
  below : Below B w w'

theorem GotList.none {B : Nat} {w w' : World} (b : Below B w w') : GotList B w w' [] none [] := ⟨nil_own _ _, Is.nil, b⟩

def GaveL (w : World) (b : Bool) (z : List Nat) (r : Ending) (w' : World) : Prop :=
  ∃ (a : Option Addr) (c : Nat) (y : List Nat), r = .returned (.tuple #[.slice a y.length c, .bool b]) ∧ GotList w.heap.size w w' (ifL b z) a y

theorem implIndexQ0 (wd hi x y : Int) (wb : Bool) (q : Nat) (w : World) (hq : Hid (x + wd * y = (q : Int))) (k1 : 0 ≤ wd * y) (k2 : wd * y ≤ 256) (k3 : 0 ≤ x) (k4 : x ≤ 256) : Calls Try.prog 57 #[.agg #[.int .i64 wd, .int .i64 hi, .bool wb], .agg #[.int .i64 x, .int .i64 y]] w fun e w' => e = .returned (.int .i64 (q : Int)) ∧ Below w.heap.size w w' :=
  (implIndexOf wd hi x y wb w k1 k2 k3 k4).mono fun e w' ⟨h, b⟩ => ⟨by rw [h, hq.out], b⟩

set_option maxHeartbeats 4000000 in
theorem specBoth (g gf : Nat) (wd hi : Int) (wb : Bool) (a b : Option Addr) (ca cb : Nat) (xs ys : List Nat) (a0 a1 a2 : Option Addr) (c0 c1 c2 : Nat) (e x y : List Nat) (w : World) (hg : Blk w g #[.int .i64 wd, .int .i64 hi, .bool wb, .slice a xs.length ca, .slice b ys.length cb] 32) (hgf : Blk w gf #[.slice a0 e.length c0, .slice a1 x.length c1, .slice a2 y.length c2] 29) (ha : RowV w a (fvals xs)) (hb : RowV w b (fvals ys)) (hx : xs.length ≤ maxLen) (hy : ys.length ≤ maxLen) (h0 : RowV w a0 (fvals e)) (h1 : RowV w a1 (fvals x)) (h2 : RowV w a2 (fvals y)) (m0 : e.length ≤ maxLen) (m1 : x.length ≤ maxLen) (m2 : y.length ≤ maxLen) :
    Calls Try.prog 37 #[.pointer (some ⟨g, 0, none⟩), .pointer (some ⟨gf, 0, none⟩)] w fun r w' => r = .returned (.bool (fieldB wd hi wb xs ys e x y)) ∧ ∃ n, w' = w.drewN n := by
  have hfb : fieldB wd hi wb xs ys e x y = (validB wd hi xs ys && fitsB wd hi wb e x y) := rfl
  rw [hfb]; clear hfb
  rcases hs : validB wd hi xs ys with _ | _
  · skip
    have H_hs := Lib.hid hs; clear hs
    go_enter Try.func37, Try.ntmps37
    go_wp2_with fail
    refine (specIs _ _ _ _ _ _ _ _ _ _ _ hg ha hb hx hy).mono ?_
    rintro r w' ⟨rfl, nq, hw⟩
    rw [H_hs.out]
    go_wp2
    go_ret
    exact ⟨rfl, nq, rfl⟩
  · skip
    obtain ⟨s1, s2, s3, s4, t1, t2⟩ := sides_mul (valid_sides hs)
    have H_hs := Lib.hid hs; clear hs t1 t2
    go_enter Try.func37, Try.ntmps37
    go_wp2_with fail
    refine (specIs _ _ _ _ _ _ _ _ _ _ _ hg ha hb hx hy).mono ?_
    rintro r w' ⟨rfl, nq, hw⟩
    rw [H_hs.out]
    subst hw
    go_wp2_with fail
    refine (specFits _ _ _ _ _ _ _ _ _ _ _ _ _ _ _ _ _ _ _ _ _ (hg.drewN nq) (hgf.drewN nq) s1 s2 s3 s4 (RowV.drawn h0 nq) (RowV.drawn h1 nq) (RowV.drawn h2 nq) m0 m1 m2).mono ?_
    rintro r w' ⟨rfl, nr, hw⟩
    go_wp2
    go_ret
    exact ⟨by simp, nq + nr, rfl⟩

end Go.Proofs.Ytedfbaeajofmnab

end

section

namespace Go.Proofs.Ytedfbaeajofmnab
open Go Ieee Go.RowKit
set_option linter.unusedVariables false

def colB (wd hi : Int) (wb : Bool) (xs ys e x y : List Nat) (u : Int) : Bool := fieldB wd hi wb xs ys e x y && cellB wd hi u 0
def colF (wd u : Int) (i : Nat) : Nat := (u + wd * (i : Int)).toNat

theorem cellB_col {wd hi u : Int} (h : 3 ≤ hi) : cellB wd hi u 0 = decide (0 ≤ u ∧ u ≤ wd - 1) := by
  unfold cellB; rw [show decide ((0 : Int) ≤ 0 ∧ 0 ≤ hi - 1) = true from decide_eq_true (by omega), Bool.and_true]

theorem make_f32cap (n : Nat) (hn : n ≤ 1048576) (w : World) : (Instr.makeSlice 22 (.int .i64 0) (.int .i64 (n : Int))).run Try.prog w = .ok (.slice (some ⟨w.heap.size, 0, none⟩) 0 n) (w.alloc (.cells (List.replicate n (Value.float .f32 0)).toArray 48)) := by
  obtain ⟨i0, hi, hz0, hz1, hz2⟩ := info_parts Try.infoF32
  have := run_make (P := Try.prog) w 22 48 i0 (.float .f32 0) Try.underlying22 hi hz0 .i64 .i64 0 n (by omega) (by omega) (by rw [hz2]; omega) (by omega)
  rw [this, hz1, Nat.mul_one, Int.toNat_natCast]
  have e : madeCells (Value.float FloatKind.f32 0).cells n = (List.replicate n (Value.float .f32 0)).toArray := by
    apply Array.toList_inj.1
    rw [show (Value.float FloatKind.f32 0).cells = #[.float .f32 0] from rfl, toList_madeCells_one]
  rw [e]; rfl

theorem outs_cap (w : World) (n : Nat) (hn : n ≤ 1048576) : Outs w (w.alloc (.cells (List.replicate n (Value.float .f32 0)).toArray 48)) (.slice (some ⟨w.heap.size, 0, none⟩) 0 n) 0 [] :=
  ⟨rfl, World.ownsRow_made w _ n (Nat.le_refl _) (by unfold maxLen; omega) (by simp), (Below.refl _ _).alloc (Nat.le_refl _) _⟩

theorem grown_of_below {w w' : World} (b : Below w.heap.size w w') : w.grownBy w' none := ⟨b.os, b.tape, b.output, b.size, fun k hk _ => b.block k hk⟩

theorem outs_later {w wr w1 : World} {v : Value} {n : Nat} {zs : List Nat} (h : Outs w wr v n zs) (b : Below wr.heap.size wr w1) : Outs w w1 v n zs :=
  ⟨h.1, h.2.1.kept (grown_of_below b) (Classical.em _), h.2.2.trans (b.mono h.2.2.size)⟩

theorem keepB2c1 {u w' : World} {g0 g1 : Nat} {c0 c1 : Array Value} {t0 t1 : TypeId} {p : Addr} {v : Value} (x0 : Blk u g0 c0 t0) (x1 : Blk u g1 c1 t1) (y0 : u.cell? p = some v) (b : Below u.heap.size u w') : (∀ i, w'.cell? ⟨g0, i, none⟩ = c0[i]?) ∧ (∀ i, w'.cell? ⟨g1, i, none⟩ = c1[i]?) ∧ w'.cell? p = some v ∧ Below u.heap.size u w' :=
  ⟨(x0.below b x0.lt).open.1, (x1.below b x1.lt).open.1, cell_on y0 b, b⟩

end Go.Proofs.Ytedfbaeajofmnab

end
