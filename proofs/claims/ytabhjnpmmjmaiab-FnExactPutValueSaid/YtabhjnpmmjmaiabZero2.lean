/- The field of zeros: the model's, and both in the form that the law's walk takes. Conditions: none beyond those of each theorem. -/
import Derived.Test.YtabhjnpmmjmaiabZero
namespace Go.Proofs.Ytabhjnpmmjmaiab
open Go Ieee Go.RowKit
set_option linter.unusedVariables false

set_option maxHeartbeats 4000000 in
theorem specZeroField (wd hi : Int) (wb : Bool) (a b : Option Addr) (ca cb : Nat) (xs ys : List Nat) (w : World) (ha : RowV w a (fvals xs)) (hb : RowV w b (fvals ys)) (hx : xs.length ≤ maxLen) (hy : ys.length ≤ maxLen) : Calls Try.prog 33 #[.agg #[.int .i64 wd, .int .i64 hi, .bool wb, .slice a xs.length ca, .slice b ys.length cb]] w fun r w' => ∃ (a0 a1 a2 : Option Addr) (c0 c1 c2 : Nat) (y0 y1 y2 : List Nat), r = .returned (.tuple #[.agg #[.slice a0 y0.length c0, .slice a1 y1.length c1, .slice a2 y2.length c2], .bool (validB wd hi xs ys)]) ∧ HasField w w' (zeroM wd hi xs ys) (zeroM wd hi xs ys) (zeroM wd hi xs ys) a0 a1 a2 y0 y1 y2 := by
  have X := Blk.new w #[.int .i64 wd, .int .i64 hi, .bool wb, .slice a xs.length ca, .slice b ys.length cb] 27
  have R := Blk.new1 w (.cells #[.int .i64 wd, .int .i64 hi, .bool wb, .slice a xs.length ca, .slice b ys.length cb] 27) #[.slice none 0 0, .slice none 0 0, .slice none 0 0] 41
  replace X := X.alloc (.cells #[.slice none 0 0, .slice none 0 0, .slice none 0 0] 41)
  have HB : Hid (Below w.heap.size w ((w.alloc (.cells #[.int .i64 wd, .int .i64 hi, .bool wb, .slice a xs.length ca, .slice b ys.length cb] 27)).alloc (.cells #[.slice none 0 0, .slice none 0 0, .slice none 0 0] 41))) := Lib.hid (((Below.refl w.heap.size w).alloc (by simp <;> omega) _).alloc (by simp <;> omega) _)
  go_enter Try.func33, Try.ntmps33
  go_wp2_with fail
  generalize ((w.alloc (.cells #[.int .i64 wd, .int .i64 hi, .bool wb, .slice a xs.length ca, .slice b ys.length cb] 27)).alloc (.cells #[.slice none 0 0, .slice none 0 0, .slice none 0 0] 41)) = u1 at *
  refine (specIs _ _ _ _ _ _ _ _ _ _ _ X (ha.later HB.out) (hb.later HB.out) hx hy).mono ?_
  rintro r u2 ⟨rfl, nq, hw⟩
  have q : Below u1.heap.size u1 u2 := by rw [hw]; exact below_drewN (Below.refl _ _) _
  clear hw
  replace X := X.later q
  replace R := R.later q
  replace HB := Lib.hid (HB.out.trans (q.mono HB.out.size))
  clear q
  rcases hs : validB wd hi xs ys with _ | _
  · skip
    have HM : Hid (zeroM wd hi xs ys = []) := Lib.hid (by unfold zeroM; rw [hs]; rfl)
    obtain ⟨Rc, Rf⟩ := R.open
    go_wp2
    refine bodyPost_ret (v := .tuple #[.agg #[.slice none 0 0, .slice none 0 0, .slice none 0 0], .bool false]) (by simp [results, Try.results33, go_sem, Rc]) rfl ⟨none, none, none, 0, 0, 0, [], [], [], by rw [hs]; rfl, by rw [HM.out]; exact HasField.none (((HB.out.setCell (p := ⟨w.heap.size + 1, 0, none⟩) (by simp) _).setCell (p := ⟨w.heap.size + 1, 1, none⟩) (by simp) _).setCell (p := ⟨w.heap.size + 1, 2, none⟩) (by simp) _)⟩
  obtain ⟨s1, s2, s3, s4, t1, t2⟩ := sides_mul (valid_sides hs)
  obtain ⟨n, hn⟩ := Int.eq_ofNat_of_zero_le (show 0 ≤ wd * hi by omega)
  have hn256 : n ≤ 256 := by omega
  have HM : Hid (zeroM wd hi xs ys = List.replicate n (some 0)) := Lib.hid (by unfold zeroM; rw [hs, hn]; rfl)
  obtain ⟨Xc, Xf⟩ := X.open
  obtain ⟨Rc, Rf⟩ := R.open
  go_wp2_with fail
  refine (specZero n _ hn256).mono ?_
  rintro r u3 ⟨b0, b1, b2, rfl, G⟩
  have z9 := R.lt
  have q := G.below
  clear Xc Xf
  clear Rc Rf
  replace X := X.later q
  replace R := R.later q
  replace HB := Lib.hid (HB.out.trans (q.mono HB.out.size))
  obtain ⟨Rc, Rf⟩ := R.open
  have z0 := R.lt; have z3 := HB.out.size
  go_wp2
  refine bodyPost_ret (v := .tuple #[.agg #[.slice b0 n n, .slice b1 n n, .slice b2 n n], .bool true]) (by simp [results, Try.results33, go_sem, Rc]) rfl ⟨b0, b1, b2, n, n, n, List.replicate n 0, List.replicate n 0, List.replicate n 0, by rw [hs, List.length_replicate], by rw [HM.out]; exact ⟨(OwnV.row (((G.o0.set (p := ⟨w.heap.size + 1, 0, none⟩) (ne_of_span (b := w.heap.size + 1) G.o0.span (by omega)) _).set (p := ⟨w.heap.size + 1, 1, none⟩) (ne_of_span (b := w.heap.size + 1) G.o0.span (by omega)) _).set (p := ⟨w.heap.size + 1, 2, none⟩) (ne_of_span (b := w.heap.size + 1) G.o0.span (by omega)) _)), (OwnV.row (((G.o1.set (p := ⟨w.heap.size + 1, 0, none⟩) (ne_of_span (b := w.heap.size + 1) G.o1.span (by omega)) _).set (p := ⟨w.heap.size + 1, 1, none⟩) (ne_of_span (b := w.heap.size + 1) G.o1.span (by omega)) _).set (p := ⟨w.heap.size + 1, 2, none⟩) (ne_of_span (b := w.heap.size + 1) G.o1.span (by omega)) _)), (OwnV.row (((G.o2.set (p := ⟨w.heap.size + 1, 0, none⟩) (ne_of_span (b := w.heap.size + 1) G.o2.span (by omega)) _).set (p := ⟨w.heap.size + 1, 1, none⟩) (ne_of_span (b := w.heap.size + 1) G.o2.span (by omega)) _).set (p := ⟨w.heap.size + 1, 2, none⟩) (ne_of_span (b := w.heap.size + 1) G.o2.span (by omega)) _)), is_zeros hn256, is_zeros hn256, is_zeros hn256, (((HB.out.setCell (p := ⟨w.heap.size + 1, 0, none⟩) (by simp) _).setCell (p := ⟨w.heap.size + 1, 1, none⟩) (by simp) _).setCell (p := ⟨w.heap.size + 1, 2, none⟩) (by simp) _)⟩⟩

theorem specZeroFieldL (wd hi : Int) (wb : Bool) (a b : Option Addr) (ca cb : Nat) (xs ys : List Nat) (w : World) (ha : RowV w a (fvals xs)) (hb : RowV w b (fvals ys)) (qa : ∀ z ∈ xs, z < 2 ^ 32) (qb : ∀ z ∈ ys, z < 2 ^ 32) (hx : xs.length ≤ maxLen) (hy : ys.length ≤ maxLen) : Calls Try.prog 33 #[.agg #[.int .i64 wd, .int .i64 hi, .bool wb, .slice a xs.length ca, .slice b ys.length cb]] w fun r w' => ∃ (a0 a1 a2 : Option Addr) (c0 c1 c2 : Nat) (y0 y1 y2 : List Nat), r = .returned (.tuple #[.agg #[.slice a0 y0.length c0, .slice a1 y1.length c1, .slice a2 y2.length c2], .bool (validB wd hi xs ys)]) ∧ HasField w w' (zeroM wd hi xs ys) (zeroM wd hi xs ys) (zeroM wd hi xs ys) a0 a1 a2 y0 y1 y2 := specZeroField _ _ _ _ _ _ _ _ _ _ ha hb hx hy

theorem implZeroFieldL (wd hi : Int) (wb : Bool) (a b : Option Addr) (ca cb : Nat) (xs ys : List Nat) (w : World) (ha : RowV w a (fvals xs)) (hb : RowV w b (fvals ys)) (qa : ∀ z ∈ xs, z < 2 ^ 32) (qb : ∀ z ∈ ys, z < 2 ^ 32) (hx : xs.length ≤ maxLen) (hy : ys.length ≤ maxLen) : Calls Try.prog 34 #[.agg #[.int .i64 wd, .int .i64 hi, .bool wb, .slice a xs.length ca, .slice b ys.length cb]] w fun r w' => ∃ (a0 a1 a2 : Option Addr) (c0 c1 c2 : Nat) (y0 y1 y2 : List Nat), r = .returned (.tuple #[.agg #[.slice a0 y0.length c0, .slice a1 y1.length c1, .slice a2 y2.length c2], .bool (validB wd hi xs ys)]) ∧ GotField w.heap.size w w' (zeroM wd hi xs ys) (zeroM wd hi xs ys) (zeroM wd hi xs ys) a0 a1 a2 y0 y1 y2 := implZeroField _ _ _ _ _ _ _ _ _ _ ha hb hx hy

end Go.Proofs.Ytabhjnpmmjmaiab
