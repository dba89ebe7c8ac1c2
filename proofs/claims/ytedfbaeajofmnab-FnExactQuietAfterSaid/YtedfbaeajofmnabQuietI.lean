/- After how many steps a field is quiet: the program's answers. Conditions: those of each theorem. -/
import Derived.Test.YtedfbaeajofmnabTraceC
import Derived.Test.YtedfbaeajofmnabPeakI
import Derived.Test.YtedfbaeajofmnabQuietS
namespace Go.Proofs.Ytedfbaeajofmnab
open Go Ieee Go.RowKit Go.Shelf
set_option linter.unusedVariables false

theorem Blk.new4 (w : World) (o q r s : Obj) (cs : Array Value) (e : TypeId) : Blk (((((w.alloc o).alloc q).alloc r).alloc s).alloc (.cells cs e)) (w.heap.size + 1 + 1 + 1 + 1) cs e := by
  have := Blk.new3 (w.alloc o) q r s cs e
  rwa [World.size_alloc] at this

/-- the greatest absolute value of a field behind steps -/
theorem implPeakX (m k n j ba oa ca bb ob cb b0 b1 b2 o0 o1 o2 c0 c1 c2 : Nat) (wb : Bool) (xs ys e x y ea xa ya : List Nat) (w W : World) (ha : RowV W (some ⟨ba, oa, none⟩) (fvals xs)) (hb : RowV W (some ⟨bb, ob, none⟩) (fvals ys)) (qa : ∀ z ∈ xs, z < 2 ^ 32) (qb : ∀ z ∈ ys, z < 2 ^ 32) (HF : Hid (fieldB (m : Int) (k : Int) wb xs ys e x y = true)) (LA : xs.length = n) (LB : ys.length = n) (L0 : e.length = n) (L1 : x.length = n) (L2 : y.length = n) (HN : n = m * k) (n256 : n ≤ 256)
    (r0 : RowV W (some ⟨b0, o0, none⟩) (fvals ea)) (r1 : RowV W (some ⟨b1, o1, none⟩) (fvals xa)) (r2 : RowV W (some ⟨b2, o2, none⟩) (fvals ya)) (ht : TAg n ea xa ya (runT wb m k (nums xs) (nums ys) ⟨nums e, nums x, nums y⟩ j)) :
    Calls Try.prog 60 #[.agg #[.int .i64 (m : Int), .int .i64 (k : Int), .bool wb, .slice (some ⟨ba, oa, none⟩) xs.length ca, .slice (some ⟨bb, ob, none⟩) ys.length cb], .agg #[.slice (some ⟨b0, o0, none⟩) n c0, .slice (some ⟨b1, o1, none⟩) n c1, .slice (some ⟨b2, o2, none⟩) n c2]] W fun r W' => r = .returned (.float .f32 (pS n (runT wb m k (nums xs) (nums ys) ⟨nums e, nums x, nums y⟩ j).e)) ∧ Below W.heap.size W W' := by
  have hm : n ≤ maxLen := by unfold maxLen; omega
  have hf := run_field HF.out HN L0 L1 L2 ht
  have h := implFieldPeak (m : Int) (k : Int) wb (some ⟨ba, oa, none⟩) (some ⟨bb, ob, none⟩) ca cb xs ys (some ⟨b0, o0, none⟩) (some ⟨b1, o1, none⟩) (some ⟨b2, o2, none⟩) c0 c1 c2 ea xa ya W ha hb qa qb (by omega) (by omega) r0 r1 r2 ht.e.2.1 ht.x.2.1 ht.y.2.1 (by rw [ht.e.1]; exact hm) (by rw [ht.x.1]; exact hm) (by rw [ht.y.1]; exact hm) hf
  rw [ht.e.1, ht.x.1, ht.y.1] at h
  refine h.mono ?_
  rintro r W' ⟨u, rfl, ⟨hu, hc⟩, b⟩
  have hz := bits_canon hc.symm (peakS_notN ea n)
  exact ⟨by rw [← hz, pS_lag ht.e], b⟩

set_option maxHeartbeats 16000000 in
set_option maxRecDepth 100000 in
theorem implQuietAfterL (wd hi : Int) (wb : Bool) (a b : Option Addr) (ca cb : Nat) (xs ys : List Nat) (a0 a1 a2 : Option Addr) (c0 c1 c2 : Nat) (e x y : List Nat) (lev : Nat) (steps : Int) (w : World) (ha : RowV w a (fvals xs)) (hb : RowV w b (fvals ys)) (qa : ∀ z ∈ xs, z < 2 ^ 32) (qb : ∀ z ∈ ys, z < 2 ^ 32) (hx : xs.length ≤ maxLen) (hy : ys.length ≤ maxLen) (h0 : RowV w a0 (fvals e)) (h1 : RowV w a1 (fvals x)) (h2 : RowV w a2 (fvals y)) (q0 : ∀ z ∈ e, z < 2 ^ 32) (q1 : ∀ z ∈ x, z < 2 ^ 32) (q2 : ∀ z ∈ y, z < 2 ^ 32) (m0 : e.length ≤ maxLen) (m1 : x.length ≤ maxLen) (m2 : y.length ≤ maxLen) (wl : lev < 2 ^ 32) (ws : (Lit.int .i64 steps).wf = true) (hc0 : c0 = e.length := by rfl) (hc1 : c1 = x.length := by rfl) (hc2 : c2 = y.length := by rfl) :
    Calls Try.prog 35 #[.agg #[.int .i64 wd, .int .i64 hi, .bool wb, .slice a xs.length ca, .slice b ys.length cb], .agg #[.slice a0 e.length c0, .slice a1 x.length c1, .slice a2 y.length c2], .float .f32 lev, .int .i64 steps] w fun r w' => r = .returned (.tuple #[.int .i64 (qaI (qaV wd hi wb xs ys e x y lev steps)), .bool (qaV wd hi wb xs ys e x y lev steps).isSome]) ∧ Below w.heap.size w w' := by
  subst hc0; subst hc1; subst hc2
  have HQV : Hid (qaV wd hi wb xs ys e x y lev steps = if (fieldB wd hi wb xs ys e x y && isRunB steps) then qaF (fun j => runT wb wd.toNat hi.toNat (nums xs) (nums ys) ⟨nums e, nums x, nums y⟩ j) (wd * hi).toNat lev steps.toNat else none) := Lib.hid rfl
  rcases hfv : fieldB wd hi wb xs ys e x y with _ | _
  · skip
    have HQ0 : Hid (qaV wd hi wb xs ys e x y lev steps = none) := Lib.hid (by rw [HQV.out, hfv]; rfl)
    rw [HQ0.out]
    have H_fb := Lib.hid hfv; clear hfv
    have X := Blk.new w #[.int .i64 wd, .int .i64 hi, .bool wb, .slice a xs.length ca, .slice b ys.length cb] 32
    have Y := Blk.new1 w (.cells #[.int .i64 wd, .int .i64 hi, .bool wb, .slice a xs.length ca, .slice b ys.length cb] 32) #[.slice a0 e.length e.length, .slice a1 x.length x.length, .slice a2 y.length y.length] 29
    replace X := X.alloc (.cells #[.slice a0 e.length e.length, .slice a1 x.length x.length, .slice a2 y.length y.length] 29)
    have V := Blk.new2 w (.cells #[.int .i64 wd, .int .i64 hi, .bool wb, .slice a xs.length ca, .slice b ys.length cb] 32) (.cells #[.slice a0 e.length e.length, .slice a1 x.length x.length, .slice a2 y.length y.length] 29) #[.float .f32 lev] 48
    replace X := X.alloc (.cells #[.float .f32 lev] 48)
    replace Y := Y.alloc (.cells #[.float .f32 lev] 48)
    have R := Blk.new3 w (.cells #[.int .i64 wd, .int .i64 hi, .bool wb, .slice a xs.length ca, .slice b ys.length cb] 32) (.cells #[.slice a0 e.length e.length, .slice a1 x.length x.length, .slice a2 y.length y.length] 29) (.cells #[.float .f32 lev] 48) #[.int .i64 0] 2
    replace X := X.alloc (.cells #[.int .i64 0] 2)
    replace Y := Y.alloc (.cells #[.int .i64 0] 2)
    replace V := V.alloc (.cells #[.int .i64 0] 2)
    have B := Blk.new4 w (.cells #[.int .i64 wd, .int .i64 hi, .bool wb, .slice a xs.length ca, .slice b ys.length cb] 32) (.cells #[.slice a0 e.length e.length, .slice a1 x.length x.length, .slice a2 y.length y.length] 29) (.cells #[.float .f32 lev] 48) (.cells #[.int .i64 0] 2) #[.bool false] 4
    replace X := X.alloc (.cells #[.bool false] 4)
    replace Y := Y.alloc (.cells #[.bool false] 4)
    replace V := V.alloc (.cells #[.bool false] 4)
    replace R := R.alloc (.cells #[.bool false] 4)
    have HB : Hid (Below w.heap.size w (((((w.alloc (.cells #[.int .i64 wd, .int .i64 hi, .bool wb, .slice a xs.length ca, .slice b ys.length cb] 32)).alloc (.cells #[.slice a0 e.length e.length, .slice a1 x.length x.length, .slice a2 y.length y.length] 29)).alloc (.cells #[.float .f32 lev] 48)).alloc (.cells #[.int .i64 0] 2)).alloc (.cells #[.bool false] 4))) := Lib.hid ((((((Below.refl w.heap.size w).alloc (by simp <;> omega) _).alloc (by simp <;> omega) _).alloc (by simp <;> omega) _).alloc (by simp <;> omega) _).alloc (by simp <;> omega) _)
    refine callsIn_wide.1 (callsIn_of_wp_marks (n := 0) Try.func35 rfl trivial (wpIn_wide.2 ?_))
    simp only [Try.ntmps35, List.size_toArray, List.length_cons, List.length_nil, Nat.reduceAdd, Nat.reduceSub, Array.replicate_succ, Array.replicate_zero, List.push_toArray, List.append_toArray, List.nil_append, List.cons_append]
    go_wp2_with fail
    generalize (((((w.alloc (.cells #[.int .i64 wd, .int .i64 hi, .bool wb, .slice a xs.length ca, .slice b ys.length cb] 32)).alloc (.cells #[.slice a0 e.length e.length, .slice a1 x.length x.length, .slice a2 y.length y.length] 29)).alloc (.cells #[.float .f32 lev] 48)).alloc (.cells #[.int .i64 0] 2)).alloc (.cells #[.bool false] 4)) = u1 at *
    obtain ⟨Xc, Xf⟩ := X.open
    obtain ⟨Yc, Yf⟩ := Y.open
    go_wp2_with fail
    refine (implIsField _ _ _ _ _ _ _ _ _ _ _ _ _ _ _ _ _ _ _ (ha.later HB.out) (hb.later HB.out) hx hy (h0.later HB.out) (h1.later HB.out) (h2.later HB.out) m0 m1 m2).mono ?_
    rintro r u2 ⟨rfl, q⟩
    clear Xc Xf
    clear Yc Yf
    replace X := X.later q
    replace Y := Y.later q
    replace V := V.later q
    replace R := R.later q
    replace B := B.later q
    replace HB := Lib.hid (HB.out.trans (q.mono HB.out.size))
    clear q
    rw [H_fb.out]
    obtain ⟨Rc, Rf⟩ := R.open
    obtain ⟨Bc, Bf⟩ := B.open
    go_wp2
    clear Rc Rf Bc Bf
    have R9 : Blk ((u2.setCell ⟨w.heap.size + 1 + 1 + 1, 0, none⟩ (.int .i64 0)).setCell ⟨w.heap.size + 1 + 1 + 1 + 1, 0, none⟩ (.bool false)) (w.heap.size + 1 + 1 + 1) #[.int .i64 0] 2 := (R.set 0 (.int .i64 0)).setOther (show w.heap.size + 1 + 1 + 1 ≠ (⟨w.heap.size + 1 + 1 + 1 + 1, 0, none⟩ : Addr).block by dsimp only; omega) _
    have B9 : Blk ((u2.setCell ⟨w.heap.size + 1 + 1 + 1, 0, none⟩ (.int .i64 0)).setCell ⟨w.heap.size + 1 + 1 + 1 + 1, 0, none⟩ (.bool false)) (w.heap.size + 1 + 1 + 1 + 1) #[.bool false] 4 := (B.setOther (p := ⟨w.heap.size + 1 + 1 + 1, 0, none⟩) (show w.heap.size + 1 + 1 + 1 + 1 ≠ (⟨w.heap.size + 1 + 1 + 1, 0, none⟩ : Addr).block by dsimp only; omega) (.int .i64 0)).set 0 (.bool false)
    have HB9 : Below w.heap.size w ((u2.setCell ⟨w.heap.size + 1 + 1 + 1, 0, none⟩ (.int .i64 0)).setCell ⟨w.heap.size + 1 + 1 + 1 + 1, 0, none⟩ (.bool false)) := (Below.setCell (HB.out) (show w.heap.size ≤ (⟨w.heap.size + 1 + 1 + 1, 0, none⟩ : Addr).block by dsimp only; omega) _).setCell (show w.heap.size ≤ (⟨w.heap.size + 1 + 1 + 1 + 1, 0, none⟩ : Addr).block by dsimp only; omega) _
    generalize ((u2.setCell ⟨w.heap.size + 1 + 1 + 1, 0, none⟩ (.int .i64 0)).setCell ⟨w.heap.size + 1 + 1 + 1 + 1, 0, none⟩ (.bool false)) = u9 at *
    obtain ⟨R9c, R9f⟩ := R9.open; obtain ⟨B9c, B9f⟩ := B9.open
    exact ⟨.tuple #[.int .i64 0, .bool false], by simp [results, Try.results35, go_sem, R9c, B9c], rfl, HB9⟩
  obtain ⟨m, k, n, rfl, rfl, hn, s1, s2, s3, s4, la, lb, l0, l1, l2, np, n256⟩ := field_nat hfv
  obtain ⟨b0, o0, rfl⟩ := row_at h0 (show 0 < e.length by omega)
  obtain ⟨b1, o1, rfl⟩ := row_at h1 (show 0 < x.length by omega)
  obtain ⟨b2, o2, rfl⟩ := row_at h2 (show 0 < y.length by omega)
  obtain ⟨ba, oa, rfl⟩ := row_at ha (show 0 < xs.length by omega)
  obtain ⟨bb, ob, rfl⟩ := row_at hb (show 0 < ys.length by omega)
  have HN := Lib.hid hn; have LA := Lib.hid la; have LB := Lib.hid lb; have L0 := Lib.hid l0; have L1 := Lib.hid l1; have L2 := Lib.hid l2; clear hn la lb l0 l1 l2
  have H_fb := Lib.hid hfv; clear hfv
  rcases hst : isRunB steps with _ | _
  · skip
    have HQ0 : Hid (qaV (m : Int) (k : Int) wb xs ys e x y lev steps = none) := Lib.hid (by rw [HQV.out, hst, Bool.and_false]; rfl)
    rw [HQ0.out]
    have HST := Lib.hid hst; clear hst
    have X := Blk.new w #[.int .i64 (m : Int), .int .i64 (k : Int), .bool wb, .slice (some ⟨ba, oa, none⟩) xs.length ca, .slice (some ⟨bb, ob, none⟩) ys.length cb] 32
    have Y := Blk.new1 w (.cells #[.int .i64 (m : Int), .int .i64 (k : Int), .bool wb, .slice (some ⟨ba, oa, none⟩) xs.length ca, .slice (some ⟨bb, ob, none⟩) ys.length cb] 32) #[.slice (some ⟨b0, o0, none⟩) e.length e.length, .slice (some ⟨b1, o1, none⟩) x.length x.length, .slice (some ⟨b2, o2, none⟩) y.length y.length] 29
    replace X := X.alloc (.cells #[.slice (some ⟨b0, o0, none⟩) e.length e.length, .slice (some ⟨b1, o1, none⟩) x.length x.length, .slice (some ⟨b2, o2, none⟩) y.length y.length] 29)
    have V := Blk.new2 w (.cells #[.int .i64 (m : Int), .int .i64 (k : Int), .bool wb, .slice (some ⟨ba, oa, none⟩) xs.length ca, .slice (some ⟨bb, ob, none⟩) ys.length cb] 32) (.cells #[.slice (some ⟨b0, o0, none⟩) e.length e.length, .slice (some ⟨b1, o1, none⟩) x.length x.length, .slice (some ⟨b2, o2, none⟩) y.length y.length] 29) #[.float .f32 lev] 48
    replace X := X.alloc (.cells #[.float .f32 lev] 48)
    replace Y := Y.alloc (.cells #[.float .f32 lev] 48)
    have R := Blk.new3 w (.cells #[.int .i64 (m : Int), .int .i64 (k : Int), .bool wb, .slice (some ⟨ba, oa, none⟩) xs.length ca, .slice (some ⟨bb, ob, none⟩) ys.length cb] 32) (.cells #[.slice (some ⟨b0, o0, none⟩) e.length e.length, .slice (some ⟨b1, o1, none⟩) x.length x.length, .slice (some ⟨b2, o2, none⟩) y.length y.length] 29) (.cells #[.float .f32 lev] 48) #[.int .i64 0] 2
    replace X := X.alloc (.cells #[.int .i64 0] 2)
    replace Y := Y.alloc (.cells #[.int .i64 0] 2)
    replace V := V.alloc (.cells #[.int .i64 0] 2)
    have B := Blk.new4 w (.cells #[.int .i64 (m : Int), .int .i64 (k : Int), .bool wb, .slice (some ⟨ba, oa, none⟩) xs.length ca, .slice (some ⟨bb, ob, none⟩) ys.length cb] 32) (.cells #[.slice (some ⟨b0, o0, none⟩) e.length e.length, .slice (some ⟨b1, o1, none⟩) x.length x.length, .slice (some ⟨b2, o2, none⟩) y.length y.length] 29) (.cells #[.float .f32 lev] 48) (.cells #[.int .i64 0] 2) #[.bool false] 4
    replace X := X.alloc (.cells #[.bool false] 4)
    replace Y := Y.alloc (.cells #[.bool false] 4)
    replace V := V.alloc (.cells #[.bool false] 4)
    replace R := R.alloc (.cells #[.bool false] 4)
    have HB : Hid (Below w.heap.size w (((((w.alloc (.cells #[.int .i64 (m : Int), .int .i64 (k : Int), .bool wb, .slice (some ⟨ba, oa, none⟩) xs.length ca, .slice (some ⟨bb, ob, none⟩) ys.length cb] 32)).alloc (.cells #[.slice (some ⟨b0, o0, none⟩) e.length e.length, .slice (some ⟨b1, o1, none⟩) x.length x.length, .slice (some ⟨b2, o2, none⟩) y.length y.length] 29)).alloc (.cells #[.float .f32 lev] 48)).alloc (.cells #[.int .i64 0] 2)).alloc (.cells #[.bool false] 4))) := Lib.hid ((((((Below.refl w.heap.size w).alloc (by simp <;> omega) _).alloc (by simp <;> omega) _).alloc (by simp <;> omega) _).alloc (by simp <;> omega) _).alloc (by simp <;> omega) _)
    refine callsIn_wide.1 (callsIn_of_wp_marks (n := 0) Try.func35 rfl trivial (wpIn_wide.2 ?_))
    simp only [Try.ntmps35, List.size_toArray, List.length_cons, List.length_nil, Nat.reduceAdd, Nat.reduceSub, Array.replicate_succ, Array.replicate_zero, List.push_toArray, List.append_toArray, List.nil_append, List.cons_append]
    go_wp2_with fail
    generalize (((((w.alloc (.cells #[.int .i64 (m : Int), .int .i64 (k : Int), .bool wb, .slice (some ⟨ba, oa, none⟩) xs.length ca, .slice (some ⟨bb, ob, none⟩) ys.length cb] 32)).alloc (.cells #[.slice (some ⟨b0, o0, none⟩) e.length e.length, .slice (some ⟨b1, o1, none⟩) x.length x.length, .slice (some ⟨b2, o2, none⟩) y.length y.length] 29)).alloc (.cells #[.float .f32 lev] 48)).alloc (.cells #[.int .i64 0] 2)).alloc (.cells #[.bool false] 4)) = u1 at *
    obtain ⟨Xc, Xf⟩ := X.open
    obtain ⟨Yc, Yf⟩ := Y.open
    go_wp2_with fail
    refine (implIsField _ _ _ _ _ _ _ _ _ _ _ _ _ _ _ _ _ _ _ (ha.later HB.out) (hb.later HB.out) hx hy (h0.later HB.out) (h1.later HB.out) (h2.later HB.out) m0 m1 m2).mono ?_
    rintro r u2 ⟨rfl, q⟩
    clear Xc Xf
    clear Yc Yf
    replace X := X.later q
    replace Y := Y.later q
    replace V := V.later q
    replace R := R.later q
    replace B := B.later q
    replace HB := Lib.hid (HB.out.trans (q.mono HB.out.size))
    clear q
    rw [H_fb.out]
    go_wp2_with fail
    refine (implIsRun _ _).mono ?_
    rintro r w5 ⟨rfl, rfl⟩
    rw [HST.out]
    obtain ⟨Rc, Rf⟩ := R.open
    obtain ⟨Bc, Bf⟩ := B.open
    go_wp2
    clear Rc Rf Bc Bf
    have R9 : Blk ((u2.setCell ⟨w.heap.size + 1 + 1 + 1, 0, none⟩ (.int .i64 0)).setCell ⟨w.heap.size + 1 + 1 + 1 + 1, 0, none⟩ (.bool false)) (w.heap.size + 1 + 1 + 1) #[.int .i64 0] 2 := (R.set 0 (.int .i64 0)).setOther (show w.heap.size + 1 + 1 + 1 ≠ (⟨w.heap.size + 1 + 1 + 1 + 1, 0, none⟩ : Addr).block by dsimp only; omega) _
    have B9 : Blk ((u2.setCell ⟨w.heap.size + 1 + 1 + 1, 0, none⟩ (.int .i64 0)).setCell ⟨w.heap.size + 1 + 1 + 1 + 1, 0, none⟩ (.bool false)) (w.heap.size + 1 + 1 + 1 + 1) #[.bool false] 4 := (B.setOther (p := ⟨w.heap.size + 1 + 1 + 1, 0, none⟩) (show w.heap.size + 1 + 1 + 1 + 1 ≠ (⟨w.heap.size + 1 + 1 + 1, 0, none⟩ : Addr).block by dsimp only; omega) (.int .i64 0)).set 0 (.bool false)
    have HB9 : Below w.heap.size w ((u2.setCell ⟨w.heap.size + 1 + 1 + 1, 0, none⟩ (.int .i64 0)).setCell ⟨w.heap.size + 1 + 1 + 1 + 1, 0, none⟩ (.bool false)) := (Below.setCell (HB.out) (show w.heap.size ≤ (⟨w.heap.size + 1 + 1 + 1, 0, none⟩ : Addr).block by dsimp only; omega) _).setCell (show w.heap.size ≤ (⟨w.heap.size + 1 + 1 + 1 + 1, 0, none⟩ : Addr).block by dsimp only; omega) _
    generalize ((u2.setCell ⟨w.heap.size + 1 + 1 + 1, 0, none⟩ (.int .i64 0)).setCell ⟨w.heap.size + 1 + 1 + 1 + 1, 0, none⟩ (.bool false)) = u9 at *
    obtain ⟨R9c, R9f⟩ := R9.open; obtain ⟨B9c, B9f⟩ := B9.open
    exact ⟨.tuple #[.int .i64 0, .bool false], by simp [results, Try.results35, go_sem, R9c, B9c], rfl, HB9⟩
  have HST := Lib.hid hst
  obtain ⟨st0, st1⟩ : 0 ≤ steps ∧ steps ≤ 64 := of_decide_eq_true hst
  obtain ⟨N, rfl⟩ := Int.eq_ofNat_of_zero_le st0
  have hN : N ≤ 64 := by omega
  have e2 : ((m : Int) * (k : Int)).toNat = n := by rw [HN.out, ← Int.natCast_mul, Int.toNat_natCast]
  have HQ1 : Hid (qaV (m : Int) (k : Int) wb xs ys e x y lev (N : Int) = qaF (fun j => runT wb m k (nums xs) (nums ys) ⟨nums e, nums x, nums y⟩ j) n lev N) := Lib.hid (by rw [HQV.out, hst, H_fb.out, e2]; rfl)
  clear hst HQV e2
  have HT0 : Hid (TAg n e x y (runT wb m k (nums xs) (nums ys) ⟨nums e, nums x, nums y⟩ 0)) := Lib.hid ⟨lag_self L0.out q0, lag_self L1.out q1, lag_self L2.out q2⟩
  have X := Blk.new w #[.int .i64 (m : Int), .int .i64 (k : Int), .bool wb, .slice (some ⟨ba, oa, none⟩) xs.length ca, .slice (some ⟨bb, ob, none⟩) ys.length cb] 32
  have Y := Blk.new1 w (.cells #[.int .i64 (m : Int), .int .i64 (k : Int), .bool wb, .slice (some ⟨ba, oa, none⟩) xs.length ca, .slice (some ⟨bb, ob, none⟩) ys.length cb] 32) #[.slice (some ⟨b0, o0, none⟩) e.length e.length, .slice (some ⟨b1, o1, none⟩) x.length x.length, .slice (some ⟨b2, o2, none⟩) y.length y.length] 29
  replace X := X.alloc (.cells #[.slice (some ⟨b0, o0, none⟩) e.length e.length, .slice (some ⟨b1, o1, none⟩) x.length x.length, .slice (some ⟨b2, o2, none⟩) y.length y.length] 29)
  have V := Blk.new2 w (.cells #[.int .i64 (m : Int), .int .i64 (k : Int), .bool wb, .slice (some ⟨ba, oa, none⟩) xs.length ca, .slice (some ⟨bb, ob, none⟩) ys.length cb] 32) (.cells #[.slice (some ⟨b0, o0, none⟩) e.length e.length, .slice (some ⟨b1, o1, none⟩) x.length x.length, .slice (some ⟨b2, o2, none⟩) y.length y.length] 29) #[.float .f32 lev] 48
  replace X := X.alloc (.cells #[.float .f32 lev] 48)
  replace Y := Y.alloc (.cells #[.float .f32 lev] 48)
  have R := Blk.new3 w (.cells #[.int .i64 (m : Int), .int .i64 (k : Int), .bool wb, .slice (some ⟨ba, oa, none⟩) xs.length ca, .slice (some ⟨bb, ob, none⟩) ys.length cb] 32) (.cells #[.slice (some ⟨b0, o0, none⟩) e.length e.length, .slice (some ⟨b1, o1, none⟩) x.length x.length, .slice (some ⟨b2, o2, none⟩) y.length y.length] 29) (.cells #[.float .f32 lev] 48) #[.int .i64 0] 2
  replace X := X.alloc (.cells #[.int .i64 0] 2)
  replace Y := Y.alloc (.cells #[.int .i64 0] 2)
  replace V := V.alloc (.cells #[.int .i64 0] 2)
  have B := Blk.new4 w (.cells #[.int .i64 (m : Int), .int .i64 (k : Int), .bool wb, .slice (some ⟨ba, oa, none⟩) xs.length ca, .slice (some ⟨bb, ob, none⟩) ys.length cb] 32) (.cells #[.slice (some ⟨b0, o0, none⟩) e.length e.length, .slice (some ⟨b1, o1, none⟩) x.length x.length, .slice (some ⟨b2, o2, none⟩) y.length y.length] 29) (.cells #[.float .f32 lev] 48) (.cells #[.int .i64 0] 2) #[.bool false] 4
  replace X := X.alloc (.cells #[.bool false] 4)
  replace Y := Y.alloc (.cells #[.bool false] 4)
  replace V := V.alloc (.cells #[.bool false] 4)
  replace R := R.alloc (.cells #[.bool false] 4)
  have HB : Hid (Below w.heap.size w (((((w.alloc (.cells #[.int .i64 (m : Int), .int .i64 (k : Int), .bool wb, .slice (some ⟨ba, oa, none⟩) xs.length ca, .slice (some ⟨bb, ob, none⟩) ys.length cb] 32)).alloc (.cells #[.slice (some ⟨b0, o0, none⟩) e.length e.length, .slice (some ⟨b1, o1, none⟩) x.length x.length, .slice (some ⟨b2, o2, none⟩) y.length y.length] 29)).alloc (.cells #[.float .f32 lev] 48)).alloc (.cells #[.int .i64 0] 2)).alloc (.cells #[.bool false] 4))) := Lib.hid ((((((Below.refl w.heap.size w).alloc (by simp <;> omega) _).alloc (by simp <;> omega) _).alloc (by simp <;> omega) _).alloc (by simp <;> omega) _).alloc (by simp <;> omega) _)
  refine callsIn_wide.1 (callsIn_of_wp_marks (n := 0) Try.func35 rfl trivial (wpIn_wide.2 ?_))
  simp only [Try.ntmps35, List.size_toArray, List.length_cons, List.length_nil, Nat.reduceAdd, Nat.reduceSub, Array.replicate_succ, Array.replicate_zero, List.push_toArray, List.append_toArray, List.nil_append, List.cons_append]
  go_wp2_with fail
  generalize (((((w.alloc (.cells #[.int .i64 (m : Int), .int .i64 (k : Int), .bool wb, .slice (some ⟨ba, oa, none⟩) xs.length ca, .slice (some ⟨bb, ob, none⟩) ys.length cb] 32)).alloc (.cells #[.slice (some ⟨b0, o0, none⟩) e.length e.length, .slice (some ⟨b1, o1, none⟩) x.length x.length, .slice (some ⟨b2, o2, none⟩) y.length y.length] 29)).alloc (.cells #[.float .f32 lev] 48)).alloc (.cells #[.int .i64 0] 2)).alloc (.cells #[.bool false] 4)) = u1 at *
  obtain ⟨Xc, Xf⟩ := X.open
  obtain ⟨Yc, Yf⟩ := Y.open
  go_wp2_with fail
  refine (implIsField _ _ _ _ _ _ _ _ _ _ _ _ _ _ _ _ _ _ _ (ha.later HB.out) (hb.later HB.out) hx hy (h0.later HB.out) (h1.later HB.out) (h2.later HB.out) m0 m1 m2).mono ?_
  rintro r u2 ⟨rfl, q⟩
  clear Xc Xf
  clear Yc Yf
  replace X := X.later q
  replace Y := Y.later q
  replace V := V.later q
  replace R := R.later q
  replace B := B.later q
  replace HB := Lib.hid (HB.out.trans (q.mono HB.out.size))
  clear q
  rw [H_fb.out]
  go_wp2_with fail
  refine (implIsRun _ _).mono ?_
  rintro r w5 ⟨rfl, rfl⟩
  rw [HST.out]
  have HQD : Hid (quB n (runT wb m k (nums xs) (nums ys) ⟨nums e, nums x, nums y⟩ 0).e lev = (FloatKind.f32.format.order (pS n (runT wb m k (nums xs) (nums ys) ⟨nums e, nums x, nums y⟩ 0).e) lev == some .lt)) := Lib.hid rfl
  have HPK : Hid (∀ W, Below w.heap.size w W → Calls Try.prog 60 #[.agg #[.int .i64 (m : Int), .int .i64 (k : Int), .bool wb, .slice (some ⟨ba, oa, none⟩) xs.length ca, .slice (some ⟨bb, ob, none⟩) ys.length cb], .agg #[.slice (some ⟨b0, o0, none⟩) e.length e.length, .slice (some ⟨b1, o1, none⟩) x.length x.length, .slice (some ⟨b2, o2, none⟩) y.length y.length]] W fun r W' => r = .returned (.float .f32 (pS n (runT wb m k (nums xs) (nums ys) ⟨nums e, nums x, nums y⟩ 0).e)) ∧ Below W.heap.size W W') := Lib.hid (fun W b => (implFieldPeak (m : Int) (k : Int) wb _ _ ca cb xs ys _ _ _ _ _ _ e x y W (ha.later b) (hb.later b) qa qb hx hy (h0.later b) (h1.later b) (h2.later b) q0 q1 q2 m0 m1 m2 H_fb.out).mono (fun r W' ⟨u, hr, ⟨hu, hc⟩, b2⟩ => ⟨by rw [hr, ← bits_canon hc.symm (peakS_notN e e.length), L0.out, pS_lag HT0.out.e], b2⟩))
  have af32 : ∀ w, (isAgg 48).run Try.prog w = .ok false w := fun w => by kernel_rfl
  go_wp2_with fail
  obtain ⟨Vc, Vf⟩ := V.open
  refine wp_region_relC (Grows u2) (fun _ _ v => v = .float .f32 (pS n (runT wb m k (nums xs) (nums ys) ⟨nums e, nums x, nums y⟩ 0).e)) (by kernel_rfl) (by kernel_rfl) (Grows.drew _) ?_
  (refine wpRel_load rfl _ rfl (_) (fun w' hw' => run_loadVar_row w' _ _ _ _ _ _ (X.later hw') Try.underlying32 rfl (by kernel_rfl)) ?_; simp only [Act.put, List.setIfInBounds_toArray, List.set_cons_zero, List.set_cons_succ])
  (refine wpRel_load rfl _ rfl (_) (fun w' hw' => run_loadVar_row w' _ _ _ _ _ _ (Y.later hw') Try.underlying29 rfl (by kernel_rfl)) ?_; simp only [Act.put, List.setIfInBounds_toArray, List.set_cons_zero, List.set_cons_succ])
  (refine wpRel_callC rfl 60 _ rfl Try.func60 (by kernel_rfl) (by kernel_rfl) [.agg #[.int .i64 (m : Int), .int .i64 (k : Int), .bool wb, .slice (some ⟨ba, oa, none⟩) xs.length ca, .slice (some ⟨bb, ob, none⟩) ys.length cb], .agg #[.slice (some ⟨b0, o0, none⟩) e.length e.length, .slice (some ⟨b1, o1, none⟩) x.length x.length, .slice (some ⟨b2, o2, none⟩) y.length y.length]] rfl (fun w' hw' => (HPK.out w' (HB.out.trans (Below.mono hw' HB.out.size))).mono (by rintro e w'' ⟨rfl, q9⟩; exact ⟨_, rfl, rfl, hw'.next q9⟩)) ?_; intro v hv; obtain rfl := hv; simp only [Act.put, List.setIfInBounds_toArray, List.set_cons_zero, List.set_cons_succ])
  (refine wpRel_load rfl _ rfl (.float .f32 lev) (load_cell af32 (Vc 0)) ?_; simp only [Act.put, List.setIfInBounds_toArray, List.set_cons_zero, List.set_cons_succ])
  (refine wpRel_plain rfl rfl ?_; intro K hK; go_big_quiet_op; (first | go_big_quiet_on | (refine ⟨_, fun _ _ => rfl, ?_⟩; go_big_quiet_on)))
  refine wpRel_nil ?_
  intro U3 hw'
  replace hw' : Below u2.heap.size u2 U3 := hw'
  clear Vc Vf
  replace X := X.later hw'
  replace Y := Y.later hw'
  replace V := V.later hw'
  replace R := R.later hw'
  replace B := B.later hw'
  replace HB := Lib.hid (HB.out.trans (hw'.mono HB.out.size))
  clear hw'
  rcases hqq : quB n (runT wb m k (nums xs) (nums ys) ⟨nums e, nums x, nums y⟩ 0).e lev with _ | _
  case true =>
    have hcmp := HQD.out.symm.trans hqq
    have HQR : Hid (qaV (m : Int) (k : Int) wb xs ys e x y lev (N : Int) = some 0) := Lib.hid (HQ1.out.trans (qa_some (Nat.zero_le _) (fun i hi => absurd hi (Nat.not_lt_zero _)) hqq))
    clear hqq
    rw [hcmp]; clear hcmp
    obtain ⟨Rc, Rf⟩ := R.open
    obtain ⟨Bc, Bf⟩ := B.open
    go_wp2
    clear Rc Rf Bc Bf
    have R9 : Blk ((U3.setCell ⟨w.heap.size + 1 + 1 + 1, 0, none⟩ (.int .i64 0)).setCell ⟨w.heap.size + 1 + 1 + 1 + 1, 0, none⟩ (.bool true)) (w.heap.size + 1 + 1 + 1) #[.int .i64 0] 2 := (R.set 0 (.int .i64 0)).setOther (show w.heap.size + 1 + 1 + 1 ≠ (⟨w.heap.size + 1 + 1 + 1 + 1, 0, none⟩ : Addr).block by dsimp only; omega) _
    have B9 : Blk ((U3.setCell ⟨w.heap.size + 1 + 1 + 1, 0, none⟩ (.int .i64 0)).setCell ⟨w.heap.size + 1 + 1 + 1 + 1, 0, none⟩ (.bool true)) (w.heap.size + 1 + 1 + 1 + 1) #[.bool true] 4 := (B.setOther (p := ⟨w.heap.size + 1 + 1 + 1, 0, none⟩) (show w.heap.size + 1 + 1 + 1 + 1 ≠ (⟨w.heap.size + 1 + 1 + 1, 0, none⟩ : Addr).block by dsimp only; omega) (.int .i64 0)).set 0 (.bool true)
    have HB9 : Below w.heap.size w ((U3.setCell ⟨w.heap.size + 1 + 1 + 1, 0, none⟩ (.int .i64 0)).setCell ⟨w.heap.size + 1 + 1 + 1 + 1, 0, none⟩ (.bool true)) := (Below.setCell (HB.out) (show w.heap.size ≤ (⟨w.heap.size + 1 + 1 + 1, 0, none⟩ : Addr).block by dsimp only; omega) _).setCell (show w.heap.size ≤ (⟨w.heap.size + 1 + 1 + 1 + 1, 0, none⟩ : Addr).block by dsimp only; omega) _
    generalize ((U3.setCell ⟨w.heap.size + 1 + 1 + 1, 0, none⟩ (.int .i64 0)).setCell ⟨w.heap.size + 1 + 1 + 1 + 1, 0, none⟩ (.bool true)) = u9 at *
    obtain ⟨R9c, R9f⟩ := R9.open; obtain ⟨B9c, B9f⟩ := B9.open
    exact ⟨.tuple #[.int .i64 0, .bool true], by simp [results, Try.results35, go_sem, R9c, B9c], by rw [HQR.out]; rfl, HB9⟩
  have hcmp := HQD.out.symm.trans hqq
  have HQ0 := Lib.hid hqq; clear hqq
  rw [hcmp]; clear hcmp HPK
  have rbu := B.lt
  have TB := Blk.new U3 #[.int .i64 0] 2
  have q := below_new U3 (.cells #[.int .i64 0] 2)
  replace X := X.later q
  replace Y := Y.later q
  replace V := V.later q
  replace R := R.later q
  replace B := B.later q
  replace HB := Lib.hid (HB.out.trans (q.mono HB.out.size))
  clear q
  obtain ⟨Xc, Xf⟩ := X.open
  obtain ⟨Yc, Yf⟩ := Y.open
  go_wp2_with fail
  generalize (U3.alloc (.cells #[.int .i64 0] 2)) = u3 at *
  have tlt3 := TB.lt; have rb3 := B.lt
  refine (implFieldsBehind m k N ba oa ca bb ob cb b0 b1 b2 o0 o1 o2 wb xs ys e x y _).mono ?_
  rintro r u4 ⟨sb, fb, nb, rfl, SB, FB, NB, ls, ln, q⟩
  clear Xc Xf
  clear Yc Yf
  replace X := X.later q
  replace Y := Y.later q
  replace V := V.later q
  replace R := R.later q
  replace B := B.later q
  replace TB := TB.later q
  replace HB := Lib.hid (HB.out.trans (q.mono HB.out.size))
  clear q
  obtain ⟨tb, htb⟩ : ∃ tb, tb = U3.heap.size := ⟨_, rfl⟩
  rw [← htb] at TB tlt3
  go_wp2_with fail
  (try simp only [← htb])
  refine wp_range_open rfl (enters_of Try.func89 (by kernel_rfl) rfl) ?_
  intro rn L D rc W1 hrc hL hD hS wL wD q
  have sz4 := HB.out.size; have tlt := TB.lt; have nlt := NB.lt; have slt := SB.lt
  replace X := X.later q
  replace Y := Y.later q
  replace V := V.later q
  replace R := R.later q
  replace B := B.later q
  replace TB := TB.later q
  replace SB := SB.later q
  replace FB := FB.later q
  replace NB := NB.later q
  replace HB := Lib.hid (HB.out.trans (q.mono HB.out.size))
  clear q
  have hz0 : w.heap.size + 1 + 1 + 1 + 1 < tb := by omega
  have hz2 : tb < D := by omega
  have hz3 : D + 1 ≤ L := by omega
  have hz5 : L ≤ D + 1 := by omega
  have hz4 : W1.heap.size = D + 1 + 1 := by omega
  have hz6 : u4.heap.size ≤ D := by omega
  clear hL hD hS
  have HTR := Lib.hid htb; clear htb
  obtain ⟨J, hJ⟩ : ∃ J : Nat → Nat → World → Prop, J = fun gb j W => W1.heap.size ≤ gb ∧ (∀ i, i ≤ j → quB n (runT wb m k (nums xs) (nums ys) ⟨nums e, nums x, nums y⟩ i).e lev = false) ∧ Blk W tb #[.int .i64 (j : Int)] 2 ∧ Blk W (w.heap.size + 1 + 1) #[.float .f32 lev] 48 ∧ Blk W (w.heap.size + 1 + 1 + 1) #[.int .i64 0] 2 ∧ Blk W (w.heap.size + 1 + 1 + 1 + 1) #[.bool false] 4 ∧ Blk W w.heap.size #[.int .i64 (m : Int), .int .i64 (k : Int), .bool wb, .slice (some ⟨ba, oa, none⟩) xs.length ca, .slice (some ⟨bb, ob, none⟩) ys.length cb] 32 ∧ W.heap[L]? = some (.loop (rc .ready none)) ∧ W.heap[D]? = some (.deferred (some [])) ∧ Below w.heap.size w W := ⟨_, rfl⟩
  obtain ⟨Jx, hJx⟩ : ∃ Jx : World → Prop, Jx = fun W => ∃ j : Nat, j ≤ N ∧ (∀ i, i < j → quB n (runT wb m k (nums xs) (nums ys) ⟨nums e, nums x, nums y⟩ i).e lev = false) ∧ quB n (runT wb m k (nums xs) (nums ys) ⟨nums e, nums x, nums y⟩ j).e lev = true ∧ Blk W (w.heap.size + 1 + 1 + 1) #[.int .i64 (j : Int)] 2 ∧ Blk W (w.heap.size + 1 + 1 + 1 + 1) #[.bool true] 4 ∧ W.heap[L]? = some (.loop (rc .done (some .ret))) ∧ W.heap[D]? = some (.deferred (some [])) ∧ Below w.heap.size w W := ⟨_, rfl⟩
  have J0 : Hid (∀ gb W, W1.heap.size ≤ gb → gb < W.heap.size → Below W1.heap.size W1 W → J gb 0 W) := Lib.hid (by
    intro gb W g1 g2 b
    subst hJ
    exact ⟨g1, (fun i hi => by have h0 : i = 0 := (by omega); rw [h0]; exact HQ0.out), TB.later b, V.later b, R.later b, B.later b, X.later b, (b.block L (by omega)).trans wL, (b.block D (by omega)).trans wD, HB.out.trans (b.mono (by omega))⟩)
  have JA : Hid (∀ gb j W W', J gb j W → W.grownBy W' (some gb) → J gb j W') := Lib.hid (by
    intro gb j W W' h hg
    subst hJ
    obtain ⟨g1, zq, z5, zl, zr, zb, z6, z8, z9, z10⟩ := h
    exact ⟨g1, zq, z5.grown hg (by simp; omega), zl.grown hg (by simp; omega), zr.grown hg (by simp; omega), zb.grown hg (by simp; omega), z6.grown hg (by simp; omega), (hg.block L (Array.getElem?_eq_some_iff.1 z8).1 (by simp; omega)).trans z8, (hg.block D (Array.getElem?_eq_some_iff.1 z9).1 (by simp; omega)).trans z9, z10.grown hg z10.size (fun j hj => by cases hj; omega)⟩)
  have HY : Hid (∀ gb j W g0 g1 g2 c0 c1 c2 ea xa ya, j < N → J gb j W → W1.heap.size ≤ gb → gb < W.heap.size → Handed W1.heap.size n gb (runT wb m k (nums xs) (nums ys) ⟨nums e, nums x, nums y⟩ (j + 1)) W g0 g1 g2 ea xa ya → YieldAt Fence.wide 0 Try.prog L #[.agg #[.slice (some ⟨g0, 0, none⟩) n c0, .slice (some ⟨g1, 0, none⟩) n c1, .slice (some ⟨g2, 0, none⟩) n c2]] W fun e W' => (e = .returned (.bool true) ∧ J gb (j + 1) W' ∧ Keep (fun i => i = tb ∨ i = w.heap.size + 1 + 1 + 1 ∨ i = w.heap.size + 1 + 1 + 1 + 1 ∨ i = L) W W') ∨ (e = .returned (.bool false) ∧ Jx W')) := by
    refine Lib.hid ?_
    intro gb j W g0 g1 g2 c0 c1 c2 ea xa ya hlt hj gl glt H3
    rw [hJ] at hj
    obtain ⟨g1_, zq, z5, zl, zr, zb, z6, z8, z9, z10⟩ := hj
    refine round_open hrc z8 rfl ?_
    have HRC := Lib.hid hrc; clear hrc; have HJD := Lib.hid hJ; clear hJ; have HJXD := Lib.hid hJx; clear hJx
    clear J0 JA TB X Y V R B SB FB NB wL wD HB
    simp only [List.zip_toArray, List.zip_cons_cons, List.zip_nil_right, List.foldl_toArray, List.foldl_cons, List.foldl_nil, List.setIfInBounds_toArray, List.set_cons_succ, List.set_cons_zero]
    refine in_region (by rintro ⟨_, _, h⟩; exact h) rfl ?_
    go_wp2_with fail
    refine ⟨(Below.heap_alloc _ _ _ (Array.getElem?_eq_some_iff.1 z8).1).trans z8, wpIn_block (wpIn_seq ?_)⟩
    refine in_region (by rintro ⟨_, _, _, h⟩; exact h) rfl ?_
    have q := below_new W (.cells #[.slice (some ⟨g0, 0, none⟩) n c0, .slice (some ⟨g1, 0, none⟩) n c1, .slice (some ⟨g2, 0, none⟩) n c2] 29)
    have NW := Blk.new W #[.slice (some ⟨g0, 0, none⟩) n c0, .slice (some ⟨g1, 0, none⟩) n c1, .slice (some ⟨g2, 0, none⟩) n c2] 29
    have HK : Keep (fun i => i = tb ∨ i = w.heap.size + 1 + 1 + 1 ∨ i = w.heap.size + 1 + 1 + 1 + 1 ∨ i = L) W ((W.alloc (.cells #[.slice (some ⟨g0, 0, none⟩) n c0, .slice (some ⟨g1, 0, none⟩) n c1, .slice (some ⟨g2, 0, none⟩) n c2] 29)).putObj L (.loop (rc .busy none))) := (Keep.of_below q).putObj (.inr (.inr (.inr rfl))) _
    have kl := (Array.getElem?_eq_some_iff.1 z8).1; have kd := (Array.getElem?_eq_some_iff.1 z9).1
    have e0 := H3.o0.later q; have e1 := H3.o1.later q; have e2 := H3.o2.later q
    replace z5 := z5.later q; replace zl := zl.later q; replace zr := zr.later q; replace zb := zb.later q; replace z6 := z6.later q; replace z10 := z10.trans (q.mono z10.size)
    replace z9 := (q.block D kd).trans z9
    have zz := q.size; clear q
    have gp := grown_putObj (W.alloc (.cells #[.slice (some ⟨g0, 0, none⟩) n c0, .slice (some ⟨g1, 0, none⟩) n c1, .slice (some ⟨g2, 0, none⟩) n c2] 29)) L (.loop (rc .busy none))
    replace z5 := z5.putObj (o := .loop (rc .busy none)) (show tb ≠ L by omega); replace zl := zl.putObj (o := .loop (rc .busy none)) (show w.heap.size + 1 + 1 ≠ L by omega); replace zr := zr.putObj (o := .loop (rc .busy none)) (show w.heap.size + 1 + 1 + 1 ≠ L by omega); replace zb := zb.putObj (o := .loop (rc .busy none)) (show w.heap.size + 1 + 1 + 1 + 1 ≠ L by omega); replace z6 := z6.putObj (o := .loop (rc .busy none)) (show w.heap.size ≠ L by omega)
    replace NW := NW.putObj (o := .loop (rc .busy none)) (show W.heap.size ≠ L by omega)
    replace z10 := z10.grown gp z10.size (fun j hj => by cases hj; omega)
    replace z9 := (gp.block D (by simp; omega) (by simp; omega)).trans z9
    replace z8 := putObj_same (o := .loop (rc .busy none)) (show L < (W.alloc (.cells #[.slice (some ⟨g0, 0, none⟩) n c0, .slice (some ⟨g1, 0, none⟩) n c1, .slice (some ⟨g2, 0, none⟩) n c2] 29)).heap.size by simp; omega)
    have x0 := H3.o0.bound g0 rfl; have x1 := H3.o1.bound g1 rfl; have x2 := H3.o2.bound g2 rfl
    replace e0 := e0.grown gp (fun x hx => by cases hx; simp; omega); replace e1 := e1.grown gp (fun x hx => by cases hx; simp; omega); replace e2 := e2.grown gp (fun x hx => by cases hx; simp; omega)
    have HTT : Hid (TAg n (firsts ea n) (firsts xa n) (firsts ya n) (runT wb m k (nums xs) (nums ys) ⟨nums e, nums x, nums y⟩ (j + 1))) := Lib.hid ⟨lag_firsts H3.e, lag_firsts H3.x, lag_firsts H3.y⟩
    clear gp zz H3
    have wlt := z6.lt
    generalize ((W.alloc (.cells #[.slice (some ⟨g0, 0, none⟩) n c0, .slice (some ⟨g1, 0, none⟩) n c1, .slice (some ⟨g2, 0, none⟩) n c2] 29)).putObj L (.loop (rc .busy none))) = v1 at *
    have hji : (j : Int) < 64 := by omega
    obtain ⟨z5c, z5f⟩ := z5.open
    go_wp2_with fail
    clear z5c z5f
    have n0 : some g0 ≠ some tb := by simp; omega
    have n1 : some g1 ≠ some tb := by simp; omega
    have n2 : some g2 ≠ some tb := by simp; omega
    replace z5 := z5.set 0 (.int .i64 ((j : Int) + 1)); replace zl := zl.setOther (p := ⟨tb, 0, none⟩) (show w.heap.size + 1 + 1 ≠ tb by omega) (.int .i64 ((j : Int) + 1)); replace zr := zr.setOther (p := ⟨tb, 0, none⟩) (show w.heap.size + 1 + 1 + 1 ≠ tb by omega) (.int .i64 ((j : Int) + 1)); replace zb := zb.setOther (p := ⟨tb, 0, none⟩) (show w.heap.size + 1 + 1 + 1 + 1 ≠ tb by omega) (.int .i64 ((j : Int) + 1)); replace z6 := z6.setOther (p := ⟨tb, 0, none⟩) (show w.heap.size ≠ tb by omega) (.int .i64 ((j : Int) + 1))
    replace NW := NW.setOther (p := ⟨tb, 0, none⟩) (show W.heap.size ≠ tb by omega) (.int .i64 ((j : Int) + 1))
    replace e0 := e0.set (p := ⟨tb, 0, none⟩) (fun x hx => by cases hx; dsimp only; omega) (.int .i64 ((j : Int) + 1)); replace e1 := e1.set (p := ⟨tb, 0, none⟩) (fun x hx => by cases hx; dsimp only; omega) (.int .i64 ((j : Int) + 1)); replace e2 := e2.set (p := ⟨tb, 0, none⟩) (fun x hx => by cases hx; dsimp only; omega) (.int .i64 ((j : Int) + 1))
    replace z10 := z10.setCell (show w.heap.size ≤ (⟨tb, 0, none⟩ : Addr).block by dsimp only; omega) (.int .i64 ((j : Int) + 1))
    replace z8 := (heap_setCell_other v1 ⟨tb, 0, none⟩ L (.int .i64 ((j : Int) + 1)) (show L ≠ tb by omega)).trans z8
    replace z9 := (heap_setCell_other v1 ⟨tb, 0, none⟩ D (.int .i64 ((j : Int) + 1)) (show D ≠ tb by omega)).trans z9
    replace HK := HK.setCell (p := ⟨tb, 0, none⟩) (.inl rfl) (.int .i64 ((j : Int) + 1))
    generalize (v1.setCell ⟨tb, 0, none⟩ (.int .i64 ((j : Int) + 1))) = v2 at *
    refine wpIn_seq ?_
    refine in_region_any (by kernel_rfl) (by rintro ⟨_, _, _, h⟩; exact h) rfl ?_
    refine wpAny_relC (Grows v2) (fun _ _ v => v = .float .f32 (pS n (runT wb m k (nums xs) (nums ys) ⟨nums e, nums x, nums y⟩ (j + 1)).e)) (by kernel_rfl) (Grows.drew _) ?_
    obtain ⟨Vc, Vf⟩ := zl.open
    (refine wpRel_load rfl _ rfl (_) (fun w' hw' => run_loadVar_row w' _ _ _ _ _ _ (z6.later hw') Try.underlying32 rfl (by kernel_rfl)) ?_; simp only [Act.put, List.setIfInBounds_toArray, List.set_cons_zero, List.set_cons_succ])
    (refine wpRel_load rfl _ rfl (_) (fun w' hw' => run_loadVar_row w' _ _ _ _ _ _ (NW.later hw') Try.underlying29 rfl (by kernel_rfl)) ?_; simp only [Act.put, List.setIfInBounds_toArray, List.set_cons_zero, List.set_cons_succ])
    (refine wpRel_callC rfl 60 _ rfl Try.func60 (by kernel_rfl) (by kernel_rfl) [.agg #[.int .i64 (m : Int), .int .i64 (k : Int), .bool wb, .slice (some ⟨ba, oa, none⟩) xs.length ca, .slice (some ⟨bb, ob, none⟩) ys.length cb], .agg #[.slice (some ⟨g0, 0, none⟩) n c0, .slice (some ⟨g1, 0, none⟩) n c1, .slice (some ⟨g2, 0, none⟩) n c2]] rfl (fun w' hw' => (implPeakX m k n (j + 1) ba oa ca bb ob cb g0 g1 g2 0 0 0 c0 c1 c2 wb xs ys e x y (firsts ea n) (firsts xa n) (firsts ya n) w w' (ha.later (z10.trans (Below.mono hw' z10.size))) (hb.later (z10.trans (Below.mono hw' z10.size))) qa qb H_fb LA.out LB.out L0.out L1.out L2.out HN.out n256 (e0.later hw').row (e1.later hw').row (e2.later hw').row HTT.out).mono (by rintro e w'' ⟨rfl, q9⟩; exact ⟨_, rfl, rfl, hw'.next q9⟩)) ?_; intro v hv; obtain rfl := hv; simp only [Act.put, List.setIfInBounds_toArray, List.set_cons_zero, List.set_cons_succ])
    (refine wpRel_load rfl _ rfl (.float .f32 lev) (load_cell af32 (Vc 0)) ?_; simp only [Act.put, List.setIfInBounds_toArray, List.set_cons_zero, List.set_cons_succ])
    (refine wpRel_plain rfl rfl ?_; intro K hK; go_big_quiet_op; (first | go_big_quiet_on | (refine ⟨_, fun _ _ => rfl, ?_⟩; go_big_quiet_on)))
    refine wpRel_nil ?_
    intro v3 hw'
    replace hw' : Below v2.heap.size v2 v3 := hw'
    clear Vc Vf NW e0 e1 e2
    have kl3 := (Array.getElem?_eq_some_iff.1 z8).1; have kd3 := (Array.getElem?_eq_some_iff.1 z9).1
    replace z5 := z5.later hw'; replace zl := zl.later hw'; replace z6 := z6.later hw'; replace zr := zr.later hw'; replace zb := zb.later hw'; replace z10 := z10.trans (hw'.mono z10.size)
    replace z8 := (hw'.block L kl3).trans z8; replace z9 := (hw'.block D kd3).trans z9
    replace HK := HK.trans (Keep.of_below hw'); clear hw'
    have HQD : Hid (quB n (runT wb m k (nums xs) (nums ys) ⟨nums e, nums x, nums y⟩ (j + 1)).e lev = (FloatKind.f32.format.order (pS n (runT wb m k (nums xs) (nums ys) ⟨nums e, nums x, nums y⟩ (j + 1)).e) lev == some .lt)) := Lib.hid rfl
    have HJ1 : Hid ((j : Int) + 1 = ((j + 1 : Nat) : Int)) := Lib.hid (by omega)
    have kl4 := (Array.getElem?_eq_some_iff.1 z8).1
    rcases hqq : quB n (runT wb m k (nums xs) (nums ys) ⟨nums e, nums x, nums y⟩ (j + 1)).e lev with _ | _
    · skip
      have hcmp := HQD.out.symm.trans hqq
      rw [hcmp]
      refine wpIn_cond_false rfl (wpIn_skip ?_)
      simp only [Exit.inBlock, true_and, Ending.returned.injEq, Value.bool.injEq, reduceCtorEq, Bool.true_eq_false, Bool.false_eq_true, false_and, or_false, false_or]
      have gp := grown_putObj v3 L (.loop (rc .ready none))
      refine ⟨z8, ?_, HK.putObj (.inr (.inr (.inr rfl))) _⟩
      rw [HJD.out]
      exact ⟨g1_, (fun i hi => by
        by_cases h : i ≤ j
        · exact zq i h
        · have h2 : i = j + 1 := (by omega)
          rw [h2]; exact hqq), by rw [← HJ1.out]; exact z5.putObj (by omega), zl.putObj (by omega), zr.putObj (by omega), zb.putObj (by omega), z6.putObj (by omega), putObj_same kl4, (World.putObj_heap_other (by omega)).trans z9, z10.grown gp z10.size (fun j hj => by cases hj; omega)⟩
    · skip
      have hcmp := HQD.out.symm.trans hqq
      rw [hcmp]
      refine wpIn_cond_true rfl (wpIn_seq ?_)
      refine in_region (by rintro ⟨_, _, _, h⟩; exact h) rfl ?_
      obtain ⟨z5c, z5f⟩ := z5.open; obtain ⟨zrc, zrf⟩ := zr.open; obtain ⟨zbc, zbf⟩ := zb.open
      go_wp2_with fail
      clear z5c z5f zrc zrf zbc zbf
      refine wpIn_ret ?_
      simp only [Exit.inBlock, true_and, Ending.returned.injEq, Value.bool.injEq, reduceCtorEq, Bool.true_eq_false, Bool.false_eq_true, false_and, or_false, false_or]
      have r9 := (zr.set 0 (.int .i64 ((j : Int) + 1))).setOther (p := ⟨w.heap.size + 1 + 1 + 1 + 1, 0, none⟩) (show w.heap.size + 1 + 1 + 1 ≠ w.heap.size + 1 + 1 + 1 + 1 by omega) (.bool true)
      have b9 := (zb.setOther (p := ⟨w.heap.size + 1 + 1 + 1, 0, none⟩) (show w.heap.size + 1 + 1 + 1 + 1 ≠ w.heap.size + 1 + 1 + 1 by omega) (.int .i64 ((j : Int) + 1))).set 0 (.bool true)
      have q9 := (z10.setCell (show w.heap.size ≤ (⟨w.heap.size + 1 + 1 + 1, 0, none⟩ : Addr).block by dsimp only; omega) (.int .i64 ((j : Int) + 1))).setCell (show w.heap.size ≤ (⟨w.heap.size + 1 + 1 + 1 + 1, 0, none⟩ : Addr).block by dsimp only; omega) (.bool true)
      have l9 := (heap_setCell_other _ ⟨w.heap.size + 1 + 1 + 1 + 1, 0, none⟩ L (.bool true) (show L ≠ w.heap.size + 1 + 1 + 1 + 1 by omega)).trans ((heap_setCell_other v3 ⟨w.heap.size + 1 + 1 + 1, 0, none⟩ L (.int .i64 ((j : Int) + 1)) (show L ≠ w.heap.size + 1 + 1 + 1 by omega)).trans z8)
      have d9 := (heap_setCell_other _ ⟨w.heap.size + 1 + 1 + 1 + 1, 0, none⟩ D (.bool true) (show D ≠ w.heap.size + 1 + 1 + 1 + 1 by omega)).trans ((heap_setCell_other v3 ⟨w.heap.size + 1 + 1 + 1, 0, none⟩ D (.int .i64 ((j : Int) + 1)) (show D ≠ w.heap.size + 1 + 1 + 1 by omega)).trans z9)
      generalize ((v3.setCell ⟨w.heap.size + 1 + 1 + 1, 0, none⟩ (.int .i64 ((j : Int) + 1))).setCell ⟨w.heap.size + 1 + 1 + 1 + 1, 0, none⟩ (.bool true)) = v4 at *
      have l9s := (Array.getElem?_eq_some_iff.1 l9).1
      have gp := grown_putObj v4 L (.loop (rc .done (some .ret)))
      refine ⟨l9, ?_⟩
      rw [HJXD.out]
      exact ⟨j + 1, by omega, fun i hi => zq i (by omega), hqq, by rw [← HJ1.out]; exact r9.putObj (by omega), b9.putObj (by omega), putObj_same l9s, (World.putObj_heap_other (by omega)).trans d9, q9.grown gp q9.size (fun j hj => by cases hj; omega)⟩
  have sba := Lib.hid (show ba < w.heap.size from by
    obtain ⟨b', o', e', hc⟩ := ha 0 _ (fvals_get (show 0 < xs.length by rw [LA.out]; exact np))
    cases e'; exact lt_of_cell hc)
  have sbb := Lib.hid (show bb < w.heap.size from by
    obtain ⟨b', o', e', hc⟩ := hb 0 _ (fvals_get (show 0 < ys.length by rw [LB.out]; exact np))
    cases e'; exact lt_of_cell hc)
  have va := sba.out; have vb := sbb.out
  refine (iterFields m k n N sb fb nb ba oa ca bb ob cb b0 b1 b2 o0 o1 o2 wb xs ys e x y (fun i => i = tb ∨ i = w.heap.size + 1 + 1 + 1 ∨ i = w.heap.size + 1 + 1 + 1 + 1 ∨ i = L) L J Jx W1 SB FB NB (ha.later HB.out) (hb.later HB.out) LA.out LB.out (h0.later HB.out) (h1.later HB.out) (h2.later HB.out) L0.out L1.out L2.out q0 q1 q2 s1 s2 s3 s4 HN hN (by omega) (by omega) (by omega) (by omega) (fun i hi => by omega) J0 JA HY).mono ?_
  clear HY J0 JA X Y V R B TB SB FB NB HB
  rintro e9 W2 ⟨⟨v9, rfl⟩, ⟨gb, h9⟩ | h9⟩
  · skip
    rw [hJ] at h9
    obtain ⟨g1, zq, z5, zl, R, B, z6, z8, z9, z10⟩ := h9
    refine ⟨v9, rfl, .inl ⟨z8, ?_⟩⟩
    have gp := grown_putObj W2 L (.loop (rc .exhausted none))
    replace R := R.putObj (o := .loop (rc .exhausted none)) (show w.heap.size + 1 + 1 + 1 ≠ L by omega); replace B := B.putObj (o := .loop (rc .exhausted none)) (show w.heap.size + 1 + 1 + 1 + 1 ≠ L by omega)
    replace z10 := z10.grown gp z10.size (fun j hj => by cases hj; omega)
    replace z9 := (gp.block D (Array.getElem?_eq_some_iff.1 z9).1 (by simp; omega)).trans z9
    have HQR : Hid (qaV (m : Int) (k : Int) wb xs ys e x y lev (N : Int) = none) := Lib.hid (HQ1.out.trans (qa_none (fun i hi => zq i (by omega))))
    clear gp z5 zl z6 z8 zq
    generalize (W2.putObj L (.loop (rc .exhausted none))) = v2 at *
    obtain ⟨Rc, Rf⟩ := R.open; obtain ⟨Bc, Bf⟩ := B.open
    go_wp2
    clear Rc Rf Bc Bf
    replace R := (R.set 0 (.int .i64 0)).setOther (p := ⟨w.heap.size + 1 + 1 + 1 + 1, 0, none⟩) (show w.heap.size + 1 + 1 + 1 ≠ w.heap.size + 1 + 1 + 1 + 1 by omega) (.bool false)
    replace B := (B.setOther (p := ⟨w.heap.size + 1 + 1 + 1, 0, none⟩) (show w.heap.size + 1 + 1 + 1 + 1 ≠ w.heap.size + 1 + 1 + 1 by omega) (.int .i64 0)).set 0 (.bool false)
    replace z10 := (z10.setCell (show w.heap.size ≤ (⟨w.heap.size + 1 + 1 + 1, 0, none⟩ : Addr).block by dsimp only; omega) (.int .i64 0)).setCell (show w.heap.size ≤ (⟨w.heap.size + 1 + 1 + 1 + 1, 0, none⟩ : Addr).block by dsimp only; omega) (.bool false)
    replace z9 := (heap_setCell_other _ ⟨w.heap.size + 1 + 1 + 1 + 1, 0, none⟩ D (.bool false) (show D ≠ w.heap.size + 1 + 1 + 1 + 1 by omega)).trans ((heap_setCell_other v2 ⟨w.heap.size + 1 + 1 + 1, 0, none⟩ D (.int .i64 0) (show D ≠ w.heap.size + 1 + 1 + 1 by omega)).trans z9)
    generalize ((v2.setCell ⟨w.heap.size + 1 + 1 + 1, 0, none⟩ (.int .i64 0)).setCell ⟨w.heap.size + 1 + 1 + 1 + 1, 0, none⟩ (.bool false)) = u9 at *
    refine ⟨by simp, .inl ⟨_, _, rfl, run_takeDeferred z9, ?_⟩⟩
    have gd := grown_putObj u9 D (.deferred none)
    replace R := R.putObj (o := .deferred none) (show w.heap.size + 1 + 1 + 1 ≠ D by omega); replace B := B.putObj (o := .deferred none) (show w.heap.size + 1 + 1 + 1 + 1 ≠ D by omega)
    replace z10 := z10.grown gd z10.size (fun j hj => by cases hj; omega)
    clear gd z9
    generalize (u9.putObj D (.deferred none)) = v8 at *
    obtain ⟨Rc, Rf⟩ := R.open; obtain ⟨Bc, Bf⟩ := B.open
    exact ⟨.tuple #[.int .i64 0, .bool false], by simp [results, Try.results35, go_sem, Rc, Bc], by rw [HQR.out]; rfl, z10⟩
  · skip
    rw [hJx] at h9
    obtain ⟨j, hj, zq, hqq, R, B, z8, z9, z10⟩ := h9
    refine ⟨v9, rfl, .inr ⟨.ret, z8, ?_⟩⟩
    have gp := grown_putObj W2 L (.loop (rc .exhausted (some .ret)))
    replace R := R.putObj (o := .loop (rc .exhausted (some .ret))) (show w.heap.size + 1 + 1 + 1 ≠ L by omega); replace B := B.putObj (o := .loop (rc .exhausted (some .ret))) (show w.heap.size + 1 + 1 + 1 + 1 ≠ L by omega)
    replace z10 := z10.grown gp z10.size (fun j hj => by cases hj; omega)
    replace z9 := (gp.block D (Array.getElem?_eq_some_iff.1 z9).1 (by simp; omega)).trans z9
    have HQR : Hid (qaV (m : Int) (k : Int) wb xs ys e x y lev (N : Int) = some j) := Lib.hid (HQ1.out.trans (qa_some hj zq hqq))
    clear gp z8 zq hqq
    generalize (W2.putObj L (.loop (rc .exhausted (some .ret)))) = v2 at *
    go_wp2
    refine ⟨by simp, .inl ⟨_, _, rfl, run_takeDeferred z9, ?_⟩⟩
    have gd := grown_putObj v2 D (.deferred none)
    replace R := R.putObj (o := .deferred none) (show w.heap.size + 1 + 1 + 1 ≠ D by omega); replace B := B.putObj (o := .deferred none) (show w.heap.size + 1 + 1 + 1 + 1 ≠ D by omega)
    replace z10 := z10.grown gd z10.size (fun j hj => by cases hj; omega)
    clear gd z9
    generalize (v2.putObj D (.deferred none)) = v8 at *
    obtain ⟨Rc, Rf⟩ := R.open; obtain ⟨Bc, Bf⟩ := B.open
    exact ⟨.tuple #[.int .i64 (j : Int), .bool true], by simp [results, Try.results35, go_sem, Rc, Bc], by rw [HQR.out]; rfl, z10⟩

end Go.Proofs.Ytedfbaeajofmnab
