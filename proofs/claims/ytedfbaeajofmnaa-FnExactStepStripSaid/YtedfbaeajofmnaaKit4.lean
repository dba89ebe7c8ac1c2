/- What the walks of laws with rects carry: rects as arguments, answers that lie in a box and own their lists. Conditions: none beyond those of each theorem. -/
import Derived.Test.YtedfbaeajofmnaaBu2
import Derived.Test.YtedfbaeajofmnaaRect
namespace Go.Proofs.Ytedfbaeajofmnaa
open Go Ieee Go.RowKit
set_option linter.unusedVariables false

/-- an answer that lies in a box and owns its lists -/
structure MetOSheet (u wx : World) (lo hi bw : Nat) (v0 v1 v2 : Value) (m0 m1 : List (Option Nat)) (a0 a1 : Option Addr) (c0 c1 : Nat) (y0 y1 : List Nat) : Prop where
  below : Below u.heap.size u wx
  le : u.heap.size ≤ bw
  box : Blk wx bw #[v0, v1, v2, .slice a0 y0.length c0, .slice a1 y1.length c1] 29
  o0 : OwnV wx lo a0 (fvals y0)
  q0 : Span lo hi a0
  s0 : Is y0 m0
  o1 : OwnV wx lo a1 (fvals y1)
  q1 : Span lo hi a1
  s1 : Is y1 m1
  p01 : Apart a0 a1
  l1 : u.heap.size ≤ lo
  l2 : hi ≤ wx.heap.size
  l3 : bw < lo ∨ hi ≤ bw
  l4 : lo ≤ hi

def RelOSheet (u : World) (v0 v1 v2 : Value) (m0 m1 : List (Option Nat)) (b : Bool) (s t : Value) (wx : World) : Prop := ∃ (bw lo hi : Nat) (a0 a1 : Option Addr) (c0 c1 : Nat) (y0 y1 : List Nat), s = .pointer (some ⟨bw, 0, none⟩) ∧ t = .bool b ∧ MetOSheet u wx lo hi bw v0 v1 v2 m0 m1 a0 a1 c0 c1 y0 y1

theorem MetOSheet.last {u v : World} {vc : Nat} {v0 v1 v2 : Value} {m0 m1 : List (Option Nat)} {a0 a1 : Option Addr} {c0 c1 : Nat} {y0 y1 : List Nat} (hb : Below u.heap.size u v) (hvc : u.heap.size ≤ vc) (hvv : vc ≤ v.heap.size) (o0 : OwnV v vc a0 (fvals y0)) (o1 : OwnV v vc a1 (fvals y1)) (p01 : Apart a0 a1) (s0 : Is y0 m0) (s1 : Is y1 m1) : MetOSheet u (v.alloc (.cells #[v0, v1, v2, .slice a0 y0.length c0, .slice a1 y1.length c1] 29)) vc v.heap.size v.heap.size v0 v1 v2 m0 m1 a0 a1 c0 c1 y0 y1 :=
  ⟨below_next hb (below_new _ _), hb.size, Blk.new v _ _, o0.later (below_new _ _), o0.span, s0, o1.later (below_new _ _), o1.span, s1, p01, hvc, by simp, .inr (Nat.le_refl _), hvv⟩

theorem MetOSheet.early {u v : World} {vc : Nat} {v0 v1 v2 : Value} {m0 m1 : List (Option Nat)} {a0 a1 : Option Addr} {c0 c1 : Nat} {y0 y1 : List Nat} {bw : Nat} {n0 n1 n2 n3 n4 : Value} (hb : Below u.heap.size u v) (le : u.heap.size ≤ bw) (lt : bw < vc) (hvv : vc ≤ v.heap.size) (hx : Blk v bw #[n0, n1, n2, n3, n4] 29) (o0 : OwnV v vc a0 (fvals y0)) (o1 : OwnV v vc a1 (fvals y1)) (p01 : Apart a0 a1) (s0 : Is y0 m0) (s1 : Is y1 m1) : MetOSheet u (((((v.setCell ⟨bw, 0, none⟩ v0).setCell ⟨bw, 1, none⟩ v1).setCell ⟨bw, 2, none⟩ v2).setCell ⟨bw, 3, none⟩ (.slice a0 y0.length c0)).setCell ⟨bw, 4, none⟩ (.slice a1 y1.length c1)) vc v.heap.size bw v0 v1 v2 m0 m1 a0 a1 c0 c1 y0 y1 :=
  ⟨(((((hb.setCell (p := ⟨bw, 0, none⟩) le _).setCell (p := ⟨bw, 1, none⟩) le _).setCell (p := ⟨bw, 2, none⟩) le _).setCell (p := ⟨bw, 3, none⟩) le _).setCell (p := ⟨bw, 4, none⟩) le _), le, (((((hx.set 0 _).set 1 _).set 2 _).set 3 _).set 4 _), (((((o0.set (p := ⟨bw, 0, none⟩) (ne_of_span (b := bw) o0.span (by omega)) _).set (p := ⟨bw, 1, none⟩) (ne_of_span (b := bw) o0.span (by omega)) _).set (p := ⟨bw, 2, none⟩) (ne_of_span (b := bw) o0.span (by omega)) _).set (p := ⟨bw, 3, none⟩) (ne_of_span (b := bw) o0.span (by omega)) _).set (p := ⟨bw, 4, none⟩) (ne_of_span (b := bw) o0.span (by omega)) _), o0.span, s0, (((((o1.set (p := ⟨bw, 0, none⟩) (ne_of_span (b := bw) o1.span (by omega)) _).set (p := ⟨bw, 1, none⟩) (ne_of_span (b := bw) o1.span (by omega)) _).set (p := ⟨bw, 2, none⟩) (ne_of_span (b := bw) o1.span (by omega)) _).set (p := ⟨bw, 3, none⟩) (ne_of_span (b := bw) o1.span (by omega)) _).set (p := ⟨bw, 4, none⟩) (ne_of_span (b := bw) o1.span (by omega)) _), o1.span, s1, p01, by omega, by simp, .inl lt, hvv⟩

/-- an answer that lies in a box and owns its lists -/
structure MetOField (u wx : World) (lo hi bw : Nat) (m0 m1 m2 : List (Option Nat)) (a0 a1 a2 : Option Addr) (c0 c1 c2 : Nat) (y0 y1 y2 : List Nat) : Prop where
  below : Below u.heap.size u wx
  le : u.heap.size ≤ bw
  box : Blk wx bw #[.slice a0 y0.length c0, .slice a1 y1.length c1, .slice a2 y2.length c2] 38
  o0 : OwnV wx lo a0 (fvals y0)
  q0 : Span lo hi a0
  s0 : Is y0 m0
  o1 : OwnV wx lo a1 (fvals y1)
  q1 : Span lo hi a1
  s1 : Is y1 m1
  o2 : OwnV wx lo a2 (fvals y2)
  q2 : Span lo hi a2
  s2 : Is y2 m2
  p01 : Apart a0 a1
  p02 : Apart a0 a2
  p12 : Apart a1 a2
  l1 : u.heap.size ≤ lo
  l2 : hi ≤ wx.heap.size
  l3 : bw < lo ∨ hi ≤ bw
  l4 : lo ≤ hi

def RelOField (u : World) (m0 m1 m2 : List (Option Nat)) (b : Bool) (s t : Value) (wx : World) : Prop := ∃ (bw lo hi : Nat) (a0 a1 a2 : Option Addr) (c0 c1 c2 : Nat) (y0 y1 y2 : List Nat), s = .pointer (some ⟨bw, 0, none⟩) ∧ t = .bool b ∧ MetOField u wx lo hi bw m0 m1 m2 a0 a1 a2 c0 c1 c2 y0 y1 y2

theorem MetOField.last {u v : World} {vc : Nat} {m0 m1 m2 : List (Option Nat)} {a0 a1 a2 : Option Addr} {c0 c1 c2 : Nat} {y0 y1 y2 : List Nat} (hb : Below u.heap.size u v) (hvc : u.heap.size ≤ vc) (hvv : vc ≤ v.heap.size) (o0 : OwnV v vc a0 (fvals y0)) (o1 : OwnV v vc a1 (fvals y1)) (o2 : OwnV v vc a2 (fvals y2)) (p01 : Apart a0 a1) (p02 : Apart a0 a2) (p12 : Apart a1 a2) (s0 : Is y0 m0) (s1 : Is y1 m1) (s2 : Is y2 m2) : MetOField u (v.alloc (.cells #[.slice a0 y0.length c0, .slice a1 y1.length c1, .slice a2 y2.length c2] 38)) vc v.heap.size v.heap.size m0 m1 m2 a0 a1 a2 c0 c1 c2 y0 y1 y2 :=
  ⟨below_next hb (below_new _ _), hb.size, Blk.new v _ _, o0.later (below_new _ _), o0.span, s0, o1.later (below_new _ _), o1.span, s1, o2.later (below_new _ _), o2.span, s2, p01, p02, p12, hvc, by simp, .inr (Nat.le_refl _), hvv⟩

theorem MetOField.early {u v : World} {vc : Nat} {m0 m1 m2 : List (Option Nat)} {a0 a1 a2 : Option Addr} {c0 c1 c2 : Nat} {y0 y1 y2 : List Nat} {bw : Nat} {n0 n1 n2 : Value} (hb : Below u.heap.size u v) (le : u.heap.size ≤ bw) (lt : bw < vc) (hvv : vc ≤ v.heap.size) (hx : Blk v bw #[n0, n1, n2] 38) (o0 : OwnV v vc a0 (fvals y0)) (o1 : OwnV v vc a1 (fvals y1)) (o2 : OwnV v vc a2 (fvals y2)) (p01 : Apart a0 a1) (p02 : Apart a0 a2) (p12 : Apart a1 a2) (s0 : Is y0 m0) (s1 : Is y1 m1) (s2 : Is y2 m2) : MetOField u (((v.setCell ⟨bw, 0, none⟩ (.slice a0 y0.length c0)).setCell ⟨bw, 1, none⟩ (.slice a1 y1.length c1)).setCell ⟨bw, 2, none⟩ (.slice a2 y2.length c2)) vc v.heap.size bw m0 m1 m2 a0 a1 a2 c0 c1 c2 y0 y1 y2 :=
  ⟨(((hb.setCell (p := ⟨bw, 0, none⟩) le _).setCell (p := ⟨bw, 1, none⟩) le _).setCell (p := ⟨bw, 2, none⟩) le _), le, (((hx.set 0 _).set 1 _).set 2 _), (((o0.set (p := ⟨bw, 0, none⟩) (ne_of_span (b := bw) o0.span (by omega)) _).set (p := ⟨bw, 1, none⟩) (ne_of_span (b := bw) o0.span (by omega)) _).set (p := ⟨bw, 2, none⟩) (ne_of_span (b := bw) o0.span (by omega)) _), o0.span, s0, (((o1.set (p := ⟨bw, 0, none⟩) (ne_of_span (b := bw) o1.span (by omega)) _).set (p := ⟨bw, 1, none⟩) (ne_of_span (b := bw) o1.span (by omega)) _).set (p := ⟨bw, 2, none⟩) (ne_of_span (b := bw) o1.span (by omega)) _), o1.span, s1, (((o2.set (p := ⟨bw, 0, none⟩) (ne_of_span (b := bw) o2.span (by omega)) _).set (p := ⟨bw, 1, none⟩) (ne_of_span (b := bw) o2.span (by omega)) _).set (p := ⟨bw, 2, none⟩) (ne_of_span (b := bw) o2.span (by omega)) _), o2.span, s2, p01, p02, p12, by omega, by simp, .inl lt, hvv⟩

theorem keepB1_set3 {u w' : World} {R g0 : Nat} {c0 : Array Value} {t0 : TypeId} (x0 : Blk u g0 c0 t0) (le : u.heap.size ≤ R) (h : (∀ i, w'.cell? ⟨g0, i, none⟩ = c0[i]?) ∧ Below u.heap.size u w') (v0 v1 v2 : Value) : (∀ i, (((w'.setCell ⟨R, 0, none⟩ v0).setCell ⟨R, 1, none⟩ v1).setCell ⟨R, 2, none⟩ v2).cell? ⟨g0, i, none⟩ = c0[i]?) ∧ Below u.heap.size u (((w'.setCell ⟨R, 0, none⟩ v0).setCell ⟨R, 1, none⟩ v1).setCell ⟨R, 2, none⟩ v2) := keep1_now x0 (((h.2.setCell (p := ⟨R, 0, none⟩) le _).setCell (p := ⟨R, 1, none⟩) le _).setCell (p := ⟨R, 2, none⟩) le _)
theorem keepB1_set5 {u w' : World} {R g0 : Nat} {c0 : Array Value} {t0 : TypeId} (x0 : Blk u g0 c0 t0) (le : u.heap.size ≤ R) (h : (∀ i, w'.cell? ⟨g0, i, none⟩ = c0[i]?) ∧ Below u.heap.size u w') (v0 v1 v2 v3 v4 : Value) : (∀ i, (((((w'.setCell ⟨R, 0, none⟩ v0).setCell ⟨R, 1, none⟩ v1).setCell ⟨R, 2, none⟩ v2).setCell ⟨R, 3, none⟩ v3).setCell ⟨R, 4, none⟩ v4).cell? ⟨g0, i, none⟩ = c0[i]?) ∧ Below u.heap.size u (((((w'.setCell ⟨R, 0, none⟩ v0).setCell ⟨R, 1, none⟩ v1).setCell ⟨R, 2, none⟩ v2).setCell ⟨R, 3, none⟩ v3).setCell ⟨R, 4, none⟩ v4) := keep1_now x0 (((((h.2.setCell (p := ⟨R, 0, none⟩) le _).setCell (p := ⟨R, 1, none⟩) le _).setCell (p := ⟨R, 2, none⟩) le _).setCell (p := ⟨R, 3, none⟩) le _).setCell (p := ⟨R, 4, none⟩) le _)
theorem keepB2_set3 {u w' : World} {R g0 g1 : Nat} {c0 c1 : Array Value} {t0 t1 : TypeId} (x0 : Blk u g0 c0 t0) (x1 : Blk u g1 c1 t1) (le : u.heap.size ≤ R) (h : (∀ i, w'.cell? ⟨g0, i, none⟩ = c0[i]?) ∧ (∀ i, w'.cell? ⟨g1, i, none⟩ = c1[i]?) ∧ Below u.heap.size u w') (v0 v1 v2 : Value) : (∀ i, (((w'.setCell ⟨R, 0, none⟩ v0).setCell ⟨R, 1, none⟩ v1).setCell ⟨R, 2, none⟩ v2).cell? ⟨g0, i, none⟩ = c0[i]?) ∧ (∀ i, (((w'.setCell ⟨R, 0, none⟩ v0).setCell ⟨R, 1, none⟩ v1).setCell ⟨R, 2, none⟩ v2).cell? ⟨g1, i, none⟩ = c1[i]?) ∧ Below u.heap.size u (((w'.setCell ⟨R, 0, none⟩ v0).setCell ⟨R, 1, none⟩ v1).setCell ⟨R, 2, none⟩ v2) := keep2_now x0 x1 (((h.2.2.setCell (p := ⟨R, 0, none⟩) le _).setCell (p := ⟨R, 1, none⟩) le _).setCell (p := ⟨R, 2, none⟩) le _)
theorem keepB2_set5 {u w' : World} {R g0 g1 : Nat} {c0 c1 : Array Value} {t0 t1 : TypeId} (x0 : Blk u g0 c0 t0) (x1 : Blk u g1 c1 t1) (le : u.heap.size ≤ R) (h : (∀ i, w'.cell? ⟨g0, i, none⟩ = c0[i]?) ∧ (∀ i, w'.cell? ⟨g1, i, none⟩ = c1[i]?) ∧ Below u.heap.size u w') (v0 v1 v2 v3 v4 : Value) : (∀ i, (((((w'.setCell ⟨R, 0, none⟩ v0).setCell ⟨R, 1, none⟩ v1).setCell ⟨R, 2, none⟩ v2).setCell ⟨R, 3, none⟩ v3).setCell ⟨R, 4, none⟩ v4).cell? ⟨g0, i, none⟩ = c0[i]?) ∧ (∀ i, (((((w'.setCell ⟨R, 0, none⟩ v0).setCell ⟨R, 1, none⟩ v1).setCell ⟨R, 2, none⟩ v2).setCell ⟨R, 3, none⟩ v3).setCell ⟨R, 4, none⟩ v4).cell? ⟨g1, i, none⟩ = c1[i]?) ∧ Below u.heap.size u (((((w'.setCell ⟨R, 0, none⟩ v0).setCell ⟨R, 1, none⟩ v1).setCell ⟨R, 2, none⟩ v2).setCell ⟨R, 3, none⟩ v3).setCell ⟨R, 4, none⟩ v4) := keep2_now x0 x1 (((((h.2.2.setCell (p := ⟨R, 0, none⟩) le _).setCell (p := ⟨R, 1, none⟩) le _).setCell (p := ⟨R, 2, none⟩) le _).setCell (p := ⟨R, 3, none⟩) le _).setCell (p := ⟨R, 4, none⟩) le _)
theorem keepB3_set3 {u w' : World} {R g0 g1 g2 : Nat} {c0 c1 c2 : Array Value} {t0 t1 t2 : TypeId} (x0 : Blk u g0 c0 t0) (x1 : Blk u g1 c1 t1) (x2 : Blk u g2 c2 t2) (le : u.heap.size ≤ R) (h : (∀ i, w'.cell? ⟨g0, i, none⟩ = c0[i]?) ∧ (∀ i, w'.cell? ⟨g1, i, none⟩ = c1[i]?) ∧ (∀ i, w'.cell? ⟨g2, i, none⟩ = c2[i]?) ∧ Below u.heap.size u w') (v0 v1 v2 : Value) : (∀ i, (((w'.setCell ⟨R, 0, none⟩ v0).setCell ⟨R, 1, none⟩ v1).setCell ⟨R, 2, none⟩ v2).cell? ⟨g0, i, none⟩ = c0[i]?) ∧ (∀ i, (((w'.setCell ⟨R, 0, none⟩ v0).setCell ⟨R, 1, none⟩ v1).setCell ⟨R, 2, none⟩ v2).cell? ⟨g1, i, none⟩ = c1[i]?) ∧ (∀ i, (((w'.setCell ⟨R, 0, none⟩ v0).setCell ⟨R, 1, none⟩ v1).setCell ⟨R, 2, none⟩ v2).cell? ⟨g2, i, none⟩ = c2[i]?) ∧ Below u.heap.size u (((w'.setCell ⟨R, 0, none⟩ v0).setCell ⟨R, 1, none⟩ v1).setCell ⟨R, 2, none⟩ v2) := keep3_now x0 x1 x2 (((h.2.2.2.setCell (p := ⟨R, 0, none⟩) le _).setCell (p := ⟨R, 1, none⟩) le _).setCell (p := ⟨R, 2, none⟩) le _)
theorem keepB3_set5 {u w' : World} {R g0 g1 g2 : Nat} {c0 c1 c2 : Array Value} {t0 t1 t2 : TypeId} (x0 : Blk u g0 c0 t0) (x1 : Blk u g1 c1 t1) (x2 : Blk u g2 c2 t2) (le : u.heap.size ≤ R) (h : (∀ i, w'.cell? ⟨g0, i, none⟩ = c0[i]?) ∧ (∀ i, w'.cell? ⟨g1, i, none⟩ = c1[i]?) ∧ (∀ i, w'.cell? ⟨g2, i, none⟩ = c2[i]?) ∧ Below u.heap.size u w') (v0 v1 v2 v3 v4 : Value) : (∀ i, (((((w'.setCell ⟨R, 0, none⟩ v0).setCell ⟨R, 1, none⟩ v1).setCell ⟨R, 2, none⟩ v2).setCell ⟨R, 3, none⟩ v3).setCell ⟨R, 4, none⟩ v4).cell? ⟨g0, i, none⟩ = c0[i]?) ∧ (∀ i, (((((w'.setCell ⟨R, 0, none⟩ v0).setCell ⟨R, 1, none⟩ v1).setCell ⟨R, 2, none⟩ v2).setCell ⟨R, 3, none⟩ v3).setCell ⟨R, 4, none⟩ v4).cell? ⟨g1, i, none⟩ = c1[i]?) ∧ (∀ i, (((((w'.setCell ⟨R, 0, none⟩ v0).setCell ⟨R, 1, none⟩ v1).setCell ⟨R, 2, none⟩ v2).setCell ⟨R, 3, none⟩ v3).setCell ⟨R, 4, none⟩ v4).cell? ⟨g2, i, none⟩ = c2[i]?) ∧ Below u.heap.size u (((((w'.setCell ⟨R, 0, none⟩ v0).setCell ⟨R, 1, none⟩ v1).setCell ⟨R, 2, none⟩ v2).setCell ⟨R, 3, none⟩ v3).setCell ⟨R, 4, none⟩ v4) := keep3_now x0 x1 x2 (((((h.2.2.2.setCell (p := ⟨R, 0, none⟩) le _).setCell (p := ⟨R, 1, none⟩) le _).setCell (p := ⟨R, 2, none⟩) le _).setCell (p := ⟨R, 3, none⟩) le _).setCell (p := ⟨R, 4, none⟩) le _)
end Go.Proofs.Ytedfbaeajofmnaa
