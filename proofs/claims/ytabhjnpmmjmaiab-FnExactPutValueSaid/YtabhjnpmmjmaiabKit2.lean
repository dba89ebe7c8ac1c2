/- More of what the walks of the laws carry. Conditions: none beyond those of each theorem. -/
import Derived.Test.YtabhjnpmmjmaiabGot
namespace Go.Proofs.Ytabhjnpmmjmaiab
open Go Ieee Go.RowKit

theorem few_max {ys : List Nat} {m : List (Option Nat)} (h : Is ys m) : ys.length ≤ maxLen := by
  have := h.few
  unfold maxLen; omega

theorem row_heldR1 {w u w' : World} {R : Nat} {a : Option Addr} {vs : List Value} {A : Prop} (h : RowV w a vs) (hu : Below w.heap.size w u) (hR : w.heap.size ≤ R) (k : A ∧ u.grownBy w' (some R)) : RowV w' a vs := h.later (hu.grown k.2 hu.size (fun j hj => by cases hj; exact hR))
theorem row_heldR2 {w u w' : World} {R : Nat} {a : Option Addr} {vs : List Value} {A B : Prop} (h : RowV w a vs) (hu : Below w.heap.size w u) (hR : w.heap.size ≤ R) (k : A ∧ B ∧ u.grownBy w' (some R)) : RowV w' a vs := h.later (hu.grown k.2.2 hu.size (fun j hj => by cases hj; exact hR))

theorem out_box (u : World) (g i : Nat) (v : Value) : Out u (u.setCell ⟨g, i, none⟩ v) g (g + 1) :=
  ⟨by simp, fun j _ hd => heap_setCell_other u ⟨g, i, none⟩ j v (by dsimp only; omega)⟩

/-- lists that a call has made: the model's answer -/
structure OwnField (w w' : World) (m0 m1 m2 : List (Option Nat)) (a0 a1 a2 : Option Addr) (y0 y1 y2 : List Nat) : Prop where
  o0 : OwnV w' w.heap.size a0 (fvals y0)
  o1 : OwnV w' w.heap.size a1 (fvals y1)
  o2 : OwnV w' w.heap.size a2 (fvals y2)
  s0 : Is y0 m0
  s1 : Is y1 m1
  s2 : Is y2 m2
  below : Below w.heap.size w w'

theorem OwnField.none {w w' : World} (b : Below w.heap.size w w') : OwnField w w' [] [] [] none none none [] [] [] := ⟨nil_own _ _, nil_own _ _, nil_own _ _, Is.nil, Is.nil, Is.nil, b⟩

theorem GotField.own {w w' : World} {m0 m1 m2 : List (Option Nat)} {a0 a1 a2 : Option Addr} {y0 y1 y2 : List Nat} (h : GotField w.heap.size w w' m0 m1 m2 a0 a1 a2 y0 y1 y2) : OwnField w w' m0 m1 m2 a0 a1 a2 y0 y1 y2 := ⟨h.o0, h.o1, h.o2, h.s0, h.s1, h.s2, h.below⟩

/-- an answer that lies in a box -/
structure MetField (u wx : World) (bw : Nat) (m0 m1 m2 : List (Option Nat)) (a0 a1 a2 : Option Addr) (c0 c1 c2 : Nat) (y0 y1 y2 : List Nat) : Prop where
  below : Below u.heap.size u wx
  le : u.heap.size ≤ bw
  box : Blk wx bw #[.slice a0 y0.length c0, .slice a1 y1.length c1, .slice a2 y2.length c2] 41
  r0 : RowV wx a0 (fvals y0)
  r1 : RowV wx a1 (fvals y1)
  r2 : RowV wx a2 (fvals y2)
  s0 : Is y0 m0
  s1 : Is y1 m1
  s2 : Is y2 m2

def RelField (u : World) (m0 m1 m2 : List (Option Nat)) (b : Bool) (s t : Value) (wx : World) : Prop := ∃ (bw : Nat) (a0 a1 a2 : Option Addr) (c0 c1 c2 : Nat) (y0 y1 y2 : List Nat), s = .pointer (some ⟨bw, 0, none⟩) ∧ t = .bool b ∧ MetField u wx bw  m0 m1 m2 a0 a1 a2 c0 c1 c2 y0 y1 y2

theorem MetField.last {u v : World} {vc : Nat} {m0 m1 m2 : List (Option Nat)} {a0 a1 a2 : Option Addr} {c0 c1 c2 : Nat} {y0 y1 y2 : List Nat} (hb : Below u.heap.size u v) (o0 : OwnV v vc a0 (fvals y0)) (o1 : OwnV v vc a1 (fvals y1)) (o2 : OwnV v vc a2 (fvals y2)) (s0 : Is y0 m0) (s1 : Is y1 m1) (s2 : Is y2 m2) : MetField u (v.alloc (.cells #[.slice a0 y0.length c0, .slice a1 y1.length c1, .slice a2 y2.length c2] 41)) v.heap.size  m0 m1 m2 a0 a1 a2 c0 c1 c2 y0 y1 y2 :=
  ⟨below_next hb (below_new _ _), hb.size, Blk.new v _ _, o0.row.later (below_new _ _), o1.row.later (below_new _ _), o2.row.later (below_new _ _), s0, s1, s2⟩

theorem MetField.early {u v : World} {vc : Nat} {m0 m1 m2 : List (Option Nat)} {a0 a1 a2 : Option Addr} {c0 c1 c2 : Nat} {y0 y1 y2 : List Nat} {bw : Nat} {n0 n1 n2 : Value} (hb : Below u.heap.size u v) (le : u.heap.size ≤ bw) (lt : bw < vc) (hx : Blk v bw #[n0, n1, n2] 41) (o0 : OwnV v vc a0 (fvals y0)) (o1 : OwnV v vc a1 (fvals y1)) (o2 : OwnV v vc a2 (fvals y2)) (s0 : Is y0 m0) (s1 : Is y1 m1) (s2 : Is y2 m2) : MetField u (((v.setCell ⟨bw, 0, none⟩ (.slice a0 y0.length c0)).setCell ⟨bw, 1, none⟩ (.slice a1 y1.length c1)).setCell ⟨bw, 2, none⟩ (.slice a2 y2.length c2)) bw  m0 m1 m2 a0 a1 a2 c0 c1 c2 y0 y1 y2 :=
  ⟨(((hb.setCell (p := ⟨bw, 0, none⟩) le _).setCell (p := ⟨bw, 1, none⟩) le _).setCell (p := ⟨bw, 2, none⟩) le _), le, (((hx.set 0 _).set 1 _).set 2 _), (((o0.set (p := ⟨bw, 0, none⟩) (ne_of_span (b := bw) o0.span (by omega)) _).set (p := ⟨bw, 1, none⟩) (ne_of_span (b := bw) o0.span (by omega)) _).set (p := ⟨bw, 2, none⟩) (ne_of_span (b := bw) o0.span (by omega)) _).row, (((o1.set (p := ⟨bw, 0, none⟩) (ne_of_span (b := bw) o1.span (by omega)) _).set (p := ⟨bw, 1, none⟩) (ne_of_span (b := bw) o1.span (by omega)) _).set (p := ⟨bw, 2, none⟩) (ne_of_span (b := bw) o1.span (by omega)) _).row, (((o2.set (p := ⟨bw, 0, none⟩) (ne_of_span (b := bw) o2.span (by omega)) _).set (p := ⟨bw, 1, none⟩) (ne_of_span (b := bw) o2.span (by omega)) _).set (p := ⟨bw, 2, none⟩) (ne_of_span (b := bw) o2.span (by omega)) _).row, s0, s1, s2⟩

/-- lists that a call has made: the model's answer -/
structure OwnSheet (w w' : World) (m0 m1 : List (Option Nat)) (a0 a1 : Option Addr) (y0 y1 : List Nat) : Prop where
  o0 : OwnV w' w.heap.size a0 (fvals y0)
  o1 : OwnV w' w.heap.size a1 (fvals y1)
  s0 : Is y0 m0
  s1 : Is y1 m1
  below : Below w.heap.size w w'

theorem OwnSheet.none {w w' : World} (b : Below w.heap.size w w') : OwnSheet w w' [] [] none none [] [] := ⟨nil_own _ _, nil_own _ _, Is.nil, Is.nil, b⟩

theorem GotSheet.own {w w' : World} {m0 m1 : List (Option Nat)} {a0 a1 : Option Addr} {y0 y1 : List Nat} (h : GotSheet w.heap.size w w' m0 m1 a0 a1 y0 y1) : OwnSheet w w' m0 m1 a0 a1 y0 y1 := ⟨h.o0, h.o1, h.s0, h.s1, h.below⟩

/-- an answer that lies in a box -/
structure MetSheet (u wx : World) (bw : Nat) (v0 v1 v2 : Value) (m0 m1 : List (Option Nat)) (a0 a1 : Option Addr) (c0 c1 : Nat) (y0 y1 : List Nat) : Prop where
  below : Below u.heap.size u wx
  le : u.heap.size ≤ bw
  box : Blk wx bw #[v0, v1, v2, .slice a0 y0.length c0, .slice a1 y1.length c1] 27
  r0 : RowV wx a0 (fvals y0)
  r1 : RowV wx a1 (fvals y1)
  s0 : Is y0 m0
  s1 : Is y1 m1

def RelSheet (u : World) (v0 v1 v2 : Value) (m0 m1 : List (Option Nat)) (b : Bool) (s t : Value) (wx : World) : Prop := ∃ (bw : Nat) (a0 a1 : Option Addr) (c0 c1 : Nat) (y0 y1 : List Nat), s = .pointer (some ⟨bw, 0, none⟩) ∧ t = .bool b ∧ MetSheet u wx bw v0 v1 v2 m0 m1 a0 a1 c0 c1 y0 y1

theorem MetSheet.last {u v : World} {vc : Nat} {v0 v1 v2 : Value} {m0 m1 : List (Option Nat)} {a0 a1 : Option Addr} {c0 c1 : Nat} {y0 y1 : List Nat} (hb : Below u.heap.size u v) (o0 : OwnV v vc a0 (fvals y0)) (o1 : OwnV v vc a1 (fvals y1)) (s0 : Is y0 m0) (s1 : Is y1 m1) : MetSheet u (v.alloc (.cells #[v0, v1, v2, .slice a0 y0.length c0, .slice a1 y1.length c1] 27)) v.heap.size v0 v1 v2 m0 m1 a0 a1 c0 c1 y0 y1 :=
  ⟨below_next hb (below_new _ _), hb.size, Blk.new v _ _, o0.row.later (below_new _ _), o1.row.later (below_new _ _), s0, s1⟩

theorem MetSheet.early {u v : World} {vc : Nat} {v0 v1 v2 : Value} {m0 m1 : List (Option Nat)} {a0 a1 : Option Addr} {c0 c1 : Nat} {y0 y1 : List Nat} {bw : Nat} {n0 n1 n2 n3 n4 : Value} (hb : Below u.heap.size u v) (le : u.heap.size ≤ bw) (lt : bw < vc) (hx : Blk v bw #[n0, n1, n2, n3, n4] 27) (o0 : OwnV v vc a0 (fvals y0)) (o1 : OwnV v vc a1 (fvals y1)) (s0 : Is y0 m0) (s1 : Is y1 m1) : MetSheet u (((((v.setCell ⟨bw, 0, none⟩ v0).setCell ⟨bw, 1, none⟩ v1).setCell ⟨bw, 2, none⟩ v2).setCell ⟨bw, 3, none⟩ (.slice a0 y0.length c0)).setCell ⟨bw, 4, none⟩ (.slice a1 y1.length c1)) bw v0 v1 v2 m0 m1 a0 a1 c0 c1 y0 y1 :=
  ⟨(((((hb.setCell (p := ⟨bw, 0, none⟩) le _).setCell (p := ⟨bw, 1, none⟩) le _).setCell (p := ⟨bw, 2, none⟩) le _).setCell (p := ⟨bw, 3, none⟩) le _).setCell (p := ⟨bw, 4, none⟩) le _), le, (((((hx.set 0 _).set 1 _).set 2 _).set 3 _).set 4 _), (((((o0.set (p := ⟨bw, 0, none⟩) (ne_of_span (b := bw) o0.span (by omega)) _).set (p := ⟨bw, 1, none⟩) (ne_of_span (b := bw) o0.span (by omega)) _).set (p := ⟨bw, 2, none⟩) (ne_of_span (b := bw) o0.span (by omega)) _).set (p := ⟨bw, 3, none⟩) (ne_of_span (b := bw) o0.span (by omega)) _).set (p := ⟨bw, 4, none⟩) (ne_of_span (b := bw) o0.span (by omega)) _).row, (((((o1.set (p := ⟨bw, 0, none⟩) (ne_of_span (b := bw) o1.span (by omega)) _).set (p := ⟨bw, 1, none⟩) (ne_of_span (b := bw) o1.span (by omega)) _).set (p := ⟨bw, 2, none⟩) (ne_of_span (b := bw) o1.span (by omega)) _).set (p := ⟨bw, 3, none⟩) (ne_of_span (b := bw) o1.span (by omega)) _).set (p := ⟨bw, 4, none⟩) (ne_of_span (b := bw) o1.span (by omega)) _).row, s0, s1⟩

theorem keep1_now {u w'' : World} {g0 : Nat} {c0 : Array Value} {t0 : TypeId} (x0 : Blk u g0 c0 t0) (B : Below u.heap.size u w'') : (∀ i, w''.cell? ⟨g0, i, none⟩ = c0[i]?) ∧ Below u.heap.size u w'' := ⟨(x0.below B x0.lt).open.1, B⟩

theorem keep2_now {u w'' : World} {g0 g1 : Nat} {c0 c1 : Array Value} {t0 t1 : TypeId} (x0 : Blk u g0 c0 t0) (x1 : Blk u g1 c1 t1) (B : Below u.heap.size u w'') : (∀ i, w''.cell? ⟨g0, i, none⟩ = c0[i]?) ∧ (∀ i, w''.cell? ⟨g1, i, none⟩ = c1[i]?) ∧ Below u.heap.size u w'' := ⟨(x0.below B x0.lt).open.1, (x1.below B x1.lt).open.1, B⟩

theorem keep3_now {u w'' : World} {g0 g1 g2 : Nat} {c0 c1 c2 : Array Value} {t0 t1 t2 : TypeId} (x0 : Blk u g0 c0 t0) (x1 : Blk u g1 c1 t1) (x2 : Blk u g2 c2 t2) (B : Below u.heap.size u w'') : (∀ i, w''.cell? ⟨g0, i, none⟩ = c0[i]?) ∧ (∀ i, w''.cell? ⟨g1, i, none⟩ = c1[i]?) ∧ (∀ i, w''.cell? ⟨g2, i, none⟩ = c2[i]?) ∧ Below u.heap.size u w'' := ⟨(x0.below B x0.lt).open.1, (x1.below B x1.lt).open.1, (x2.below B x2.lt).open.1, B⟩

theorem keep4_now {u w'' : World} {g0 g1 g2 g3 : Nat} {c0 c1 c2 c3 : Array Value} {t0 t1 t2 t3 : TypeId} (x0 : Blk u g0 c0 t0) (x1 : Blk u g1 c1 t1) (x2 : Blk u g2 c2 t2) (x3 : Blk u g3 c3 t3) (B : Below u.heap.size u w'') : (∀ i, w''.cell? ⟨g0, i, none⟩ = c0[i]?) ∧ (∀ i, w''.cell? ⟨g1, i, none⟩ = c1[i]?) ∧ (∀ i, w''.cell? ⟨g2, i, none⟩ = c2[i]?) ∧ (∀ i, w''.cell? ⟨g3, i, none⟩ = c3[i]?) ∧ Below u.heap.size u w'' := ⟨(x0.below B x0.lt).open.1, (x1.below B x1.lt).open.1, (x2.below B x2.lt).open.1, (x3.below B x3.lt).open.1, B⟩
end Go.Proofs.Ytabhjnpmmjmaiab
