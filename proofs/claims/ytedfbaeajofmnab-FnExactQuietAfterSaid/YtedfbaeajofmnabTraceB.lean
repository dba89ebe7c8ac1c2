/- Traces over the fields behind steps: what the program makes of a measure. Conditions: those of each theorem. -/
import Derived.Test.YtedfbaeajofmnabTraceA
import Derived.Shelf.Abstract
import Derived.Test.YtedfbaeajofmnabHeldG
namespace Go.Proofs.Ytedfbaeajofmnab
open Go Ieee Go.RowKit Go.Shelf
set_option linter.unusedVariables false

/-- a row that grows in its place -/
def RowF (W : World) (tr n N : Nat) (zs : List Nat) : Prop := W.ownsRow tr 48 1 (.slice (some ⟨tr, 0, none⟩) n N) n (fvals zs)
theorem RowF.grown {W W' : World} {tr n N : Nat} {zs : List Nat} (h : RowF W tr n N zs) {r : Option Nat} (b : W.grownBy W' r) (hr : some tr ≠ r) : RowF W' tr n N zs := World.ownsRow.kept h b (.inr hr)
theorem RowF.later {W W' : World} {tr n N : Nat} {zs : List Nat} (h : RowF W tr n N zs) (b : Below W.heap.size W W') : RowF W' tr n N zs := World.ownsRow.kept h (grown_of_below b) (Classical.em _)

/-- a function that measures a field: what it answers for a field of these numbers -/
def Measures (mf n : Nat) (env sh : Array Value) (w : World) (t : Trip) (mv : Option Nat) : Prop :=
  ∀ (W : World) (g0 g1 g2 c0 c1 c2 : Nat) (ea xa ya : Nat → Nat), Below w.heap.size w W → RowV W (some ⟨g0, 0, none⟩) (fvals (firsts ea n)) → RowV W (some ⟨g1, 0, none⟩) (fvals (firsts xa n)) → RowV W (some ⟨g2, 0, none⟩) (fvals (firsts ya n)) → Ag n ea t.e → Ag n xa t.x → Ag n ya t.y →
    Calls Try.prog mf (#[.agg sh, .agg #[.slice (some ⟨g0, 0, none⟩) n c0, .slice (some ⟨g1, 0, none⟩) n c1, .slice (some ⟨g2, 0, none⟩) n c2]] ++ env) W fun r W' => ∃ z, r = .returned (.float .f32 z) ∧ (z < 2 ^ 32 ∧ canon .f32 z = mv) ∧ Below W.heap.size W W'

set_option maxHeartbeats 16000000 in
set_option maxRecDepth 100000 in
theorem implTraceOf (m k n N ba oa ca bb ob cb b0 b1 b2 o0 o1 o2 mf : Nat) (env : Array Value) (wb : Bool) (xs ys e x y : List Nat) (mv : Nat → Option Nat) (fn : Func) (w : World) (ha : RowV w (some ⟨ba, oa, none⟩) (fvals xs)) (hb : RowV w (some ⟨bb, ob, none⟩) (fvals ys)) (qa : ∀ z ∈ xs, z < 2 ^ 32) (qb : ∀ z ∈ ys, z < 2 ^ 32) (h0 : RowV w (some ⟨b0, o0, none⟩) (fvals e)) (h1 : RowV w (some ⟨b1, o1, none⟩) (fvals x)) (h2 : RowV w (some ⟨b2, o2, none⟩) (fvals y)) (q0 : ∀ z ∈ e, z < 2 ^ 32) (q1 : ∀ z ∈ x, z < 2 ^ 32) (q2 : ∀ z ∈ y, z < 2 ^ 32) (LA : Hid (xs.length = n)) (LB : Hid (ys.length = n)) (L0 : Hid (e.length = n)) (L1 : Hid (x.length = n)) (L2 : Hid (y.length = n)) (s1 : 3 ≤ m) (s2 : m ≤ 16) (s3 : 3 ≤ k) (s4 : k ≤ 16) (HN : Hid (n = m * k)) (n256 : n ≤ 256) (HF : Hid (fieldB (m : Int) (k : Int) wb xs ys e x y = true)) (hN : N ≤ 64)
    (hf : Try.prog.funcs[mf]? = some fn) (hfn : (fn.name == "runtime.NumGoroutine") = false) (hfb : fn.body.isNone = false) (hM : Hid (∀ j, j < N → Measures mf n env #[.int .i64 (m : Int), .int .i64 (k : Int), .bool wb, .slice (some ⟨ba, oa, none⟩) xs.length ca, .slice (some ⟨bb, ob, none⟩) ys.length cb] w (runT wb m k (nums xs) (nums ys) ⟨nums e, nums x, nums y⟩ (j + 1)) (mv j))) :
    Calls Try.prog 55 #[.agg #[.int .i64 (m : Int), .int .i64 (k : Int), .bool wb, .slice (some ⟨ba, oa, none⟩) xs.length ca, .slice (some ⟨bb, ob, none⟩) ys.length cb], .agg #[.slice (some ⟨b0, o0, none⟩) e.length e.length, .slice (some ⟨b1, o1, none⟩) x.length x.length, .slice (some ⟨b2, o2, none⟩) y.length y.length], .int .i64 (N : Int), .func (.func mf) #[] env] w fun r w' => ∃ g c zs, r = .returned (.tuple #[.slice (some ⟨g, 0, none⟩) N c, .bool true]) ∧ zs.length = N ∧ (∀ z ∈ zs, z < 2 ^ 32) ∧ (∀ j, j < N → canon .f32 (zs.getD j 0) = mv j) ∧ OwnV w' w.heap.size (some ⟨g, 0, none⟩) (fvals zs) ∧ Below w.heap.size w w' := by
  have hNi : (N : Int) ≤ 64 := by omega
  have h256 : (256 : Nat) ≤ maxLen := by unfold maxLen; omega
  have l1_ := LA.out; have l2_ := LB.out; have l3_ := L0.out; have l4_ := L1.out; have l5_ := L2.out
  have MX : Hid (xs.length ≤ maxLen ∧ ys.length ≤ maxLen ∧ e.length ≤ maxLen ∧ x.length ≤ maxLen ∧ y.length ≤ maxLen) := Lib.hid ⟨by omega, by omega, by omega, by omega, by omega⟩
  clear l1_ l2_ l3_ l4_ l5_ h256
  have X := Blk.new w #[.int .i64 (m : Int), .int .i64 (k : Int), .bool wb, .slice (some ⟨ba, oa, none⟩) xs.length ca, .slice (some ⟨bb, ob, none⟩) ys.length cb] 32
  have Y := Blk.new1 w (.cells #[.int .i64 (m : Int), .int .i64 (k : Int), .bool wb, .slice (some ⟨ba, oa, none⟩) xs.length ca, .slice (some ⟨bb, ob, none⟩) ys.length cb] 32) #[.slice (some ⟨b0, o0, none⟩) e.length e.length, .slice (some ⟨b1, o1, none⟩) x.length x.length, .slice (some ⟨b2, o2, none⟩) y.length y.length] 29
  replace X := X.alloc (.cells #[.slice (some ⟨b0, o0, none⟩) e.length e.length, .slice (some ⟨b1, o1, none⟩) x.length x.length, .slice (some ⟨b2, o2, none⟩) y.length y.length] 29)
  have M := Blk.new2 w (.cells #[.int .i64 (m : Int), .int .i64 (k : Int), .bool wb, .slice (some ⟨ba, oa, none⟩) xs.length ca, .slice (some ⟨bb, ob, none⟩) ys.length cb] 32) (.cells #[.slice (some ⟨b0, o0, none⟩) e.length e.length, .slice (some ⟨b1, o1, none⟩) x.length x.length, .slice (some ⟨b2, o2, none⟩) y.length y.length] 29) #[.func (.func mf) #[] env] 83
  replace X := X.alloc (.cells #[.func (.func mf) #[] env] 83)
  replace Y := Y.alloc (.cells #[.func (.func mf) #[] env] 83)
  have HB : Hid (Below w.heap.size w (((w.alloc (.cells #[.int .i64 (m : Int), .int .i64 (k : Int), .bool wb, .slice (some ⟨ba, oa, none⟩) xs.length ca, .slice (some ⟨bb, ob, none⟩) ys.length cb] 32)).alloc (.cells #[.slice (some ⟨b0, o0, none⟩) e.length e.length, .slice (some ⟨b1, o1, none⟩) x.length x.length, .slice (some ⟨b2, o2, none⟩) y.length y.length] 29)).alloc (.cells #[.func (.func mf) #[] env] 83))) := Lib.hid ((((Below.refl w.heap.size w).alloc (by simp <;> omega) _).alloc (by simp <;> omega) _).alloc (by simp <;> omega) _)
  refine callsIn_wide.1 (callsIn_of_wp_marks (n := 0) Try.func55 rfl trivial (wpIn_wide.2 ?_))
  simp only [Try.ntmps55, List.size_toArray, List.length_cons, List.length_nil, Nat.reduceAdd, Nat.reduceSub, Array.replicate_succ, Array.replicate_zero, List.push_toArray, List.append_toArray, List.nil_append, List.cons_append]
  go_wp2_with fail
  generalize (((w.alloc (.cells #[.int .i64 (m : Int), .int .i64 (k : Int), .bool wb, .slice (some ⟨ba, oa, none⟩) xs.length ca, .slice (some ⟨bb, ob, none⟩) ys.length cb] 32)).alloc (.cells #[.slice (some ⟨b0, o0, none⟩) e.length e.length, .slice (some ⟨b1, o1, none⟩) x.length x.length, .slice (some ⟨b2, o2, none⟩) y.length y.length] 29)).alloc (.cells #[.func (.func mf) #[] env] 83)) = u1 at *
  obtain ⟨Xc, Xf⟩ := X.open
  obtain ⟨Yc, Yf⟩ := Y.open
  go_wp2_with fail
  refine (implIsField _ _ _ _ _ _ _ _ _ _ _ _ _ _ _ _ _ _ _ (ha.later HB.out) (hb.later HB.out) MX.out.1 MX.out.2.1 (h0.later HB.out) (h1.later HB.out) (h2.later HB.out) MX.out.2.2.1 MX.out.2.2.2.1 MX.out.2.2.2.2).mono ?_
  rintro r u2 ⟨rfl, q⟩
  clear Xc Xf
  clear Yc Yf
  replace X := X.later q
  replace Y := Y.later q
  replace M := M.later q
  replace HB := Lib.hid (HB.out.trans (q.mono HB.out.size))
  clear q
  rw [HF.out]
  go_wp2_with fail
  refine (implIsRun _ _).mono ?_
  rintro r w5 ⟨rfl, rfl⟩
  have hst : isRunB (N : Int) = true := by unfold isRunB; simp; omega
  rw [hst]; clear hst
  have hmk := make_f32cap N (by omega)
  have OS : Hid (RowF (u2.alloc (.cells (Array.replicate N (Value.float .f32 0)) 48)) u2.heap.size 0 N []) := Lib.hid (outs_cap u2 N (by omega)).2.1
  have xlt := X.lt; have mlt := M.lt
  have q := below_new u2 (.cells (Array.replicate N (Value.float .f32 0)) 48)
  replace X := X.later q
  replace Y := Y.later q
  replace M := M.later q
  replace HB := Lib.hid (HB.out.trans (q.mono HB.out.size))
  clear q
  have TB := Blk.new (u2.alloc (.cells (Array.replicate N (Value.float .f32 0)) 48)) #[.slice (some ⟨u2.heap.size, 0, none⟩) 0 N] 22
  have q := below_new (u2.alloc (.cells (Array.replicate N (Value.float .f32 0)) 48)) (.cells #[.slice (some ⟨u2.heap.size, 0, none⟩) 0 N] 22)
  replace X := X.later q
  replace Y := Y.later q
  replace M := M.later q
  replace OS := Lib.hid (OS.out.later q)
  replace HB := Lib.hid (HB.out.trans (q.mono HB.out.size))
  clear q
  obtain ⟨Xc, Xf⟩ := X.open
  obtain ⟨Yc, Yf⟩ := Y.open
  go_wp2_with fail
  generalize ((u2.alloc (.cells (Array.replicate N (Value.float .f32 0)) 48)).alloc (.cells #[.slice (some ⟨u2.heap.size, 0, none⟩) 0 N] 22)) = u3 at *
  have tlt3 := TB.lt
  refine (implFieldsBehind m k N ba oa ca bb ob cb b0 b1 b2 o0 o1 o2 wb xs ys e x y _).mono ?_
  rintro r u4 ⟨sb, fb, nb, rfl, SB, FB, NB, ls, ln, q⟩
  clear Xc Xf
  clear Yc Yf
  replace X := X.later q
  replace Y := Y.later q
  replace M := M.later q
  replace TB := TB.later q
  replace OS := Lib.hid (OS.out.later q)
  replace HB := Lib.hid (HB.out.trans (q.mono HB.out.size))
  clear q
  obtain ⟨tr, htr⟩ : ∃ tr, tr = u2.heap.size := ⟨_, rfl⟩
  rw [← htr] at OS ⊢
  simp only [World.size_alloc, ← htr] at TB tlt3
  go_wp2_with fail
  (try simp only [← htr])
  refine wp_range_open rfl (enters_of Try.func89 (by kernel_rfl) rfl) ?_
  intro rn L D rc W1 hrc hL hD hS wL wD q
  have sz4 := HB.out.size; have tlt := TB.lt; have nlt := NB.lt; have slt := SB.lt
  replace X := X.later q
  replace Y := Y.later q
  replace M := M.later q
  replace TB := TB.later q
  replace SB := SB.later q
  replace FB := FB.later q
  replace NB := NB.later q
  replace OS := Lib.hid (OS.out.later q)
  replace HB := Lib.hid (HB.out.trans (q.mono HB.out.size))
  clear q
  have hz1 : w.heap.size + 1 + 1 < tr := by rw [htr]; omega
  have hz2 : tr + 1 < D := by omega
  have hz3 : D + 1 ≤ L := by omega
  have hz5 : L ≤ D + 1 := by omega
  have hz4 : W1.heap.size = D + 1 + 1 := by omega
  have hz6 : u4.heap.size ≤ D := by omega
  clear hL hD hS
  have HTR := Lib.hid htr; clear htr
  obtain ⟨J, hJ⟩ : ∃ J : Nat → Nat → World → Prop, J = fun gb j W => W1.heap.size ≤ gb ∧ ∃ zs : List Nat, zs.length = j ∧ (∀ z ∈ zs, z < 2 ^ 32) ∧ (∀ i, i < j → canon .f32 (zs.getD i 0) = mv i) ∧ RowF W tr j N zs ∧ Blk W (tr + 1) #[.slice (some ⟨tr, 0, none⟩) j N] 22 ∧ Blk W w.heap.size #[.int .i64 (m : Int), .int .i64 (k : Int), .bool wb, .slice (some ⟨ba, oa, none⟩) xs.length ca, .slice (some ⟨bb, ob, none⟩) ys.length cb] 32 ∧ Blk W (w.heap.size + 1 + 1) #[.func (.func mf) #[] env] 83 ∧ W.heap[L]? = some (.loop (rc .ready none)) ∧ W.heap[D]? = some (.deferred (some [])) ∧ Below w.heap.size w W := ⟨_, rfl⟩
  have J0 : Hid (∀ gb W, W1.heap.size ≤ gb → gb < W.heap.size → Below W1.heap.size W1 W → J gb 0 W) := Lib.hid (by
    intro gb W g1 g2 b
    subst hJ
    exact ⟨g1, [], rfl, by simp, fun i hi => absurd hi (Nat.not_lt_zero _), OS.out.later b, TB.later b, X.later b, M.later b, (b.block L (by omega)).trans wL, (b.block D (by omega)).trans wD, HB.out.trans (b.mono (by omega))⟩)
  have JA : Hid (∀ gb j W W', J gb j W → W.grownBy W' (some gb) → J gb j W') := Lib.hid (by
    intro gb j W W' h hg
    subst hJ
    obtain ⟨g1, zs, z1, z2, z3, z4, z5, z6, z7, z8, z9, z10⟩ := h
    have d1 := z4
    exact ⟨g1, zs, z1, z2, z3, z4.grown hg (by simp; omega), z5.grown hg (by simp; omega), z6.grown hg (by simp; omega), z7.grown hg (by simp; omega), (hg.block L (Array.getElem?_eq_some_iff.1 z8).1 (by simp; omega)).trans z8, (hg.block D (Array.getElem?_eq_some_iff.1 z9).1 (by simp; omega)).trans z9, z10.grown hg z10.size (fun j hj => by cases hj; omega)⟩)
  have HY : Hid (∀ gb j W g0 g1 g2 c0 c1 c2 ea xa ya, j < N → J gb j W → W1.heap.size ≤ gb → gb < W.heap.size → Handed W1.heap.size n gb (runT wb m k (nums xs) (nums ys) ⟨nums e, nums x, nums y⟩ (j + 1)) W g0 g1 g2 ea xa ya → YieldAt Fence.wide 0 Try.prog L #[.agg #[.slice (some ⟨g0, 0, none⟩) n c0, .slice (some ⟨g1, 0, none⟩) n c1, .slice (some ⟨g2, 0, none⟩) n c2]] W fun e W' => (e = .returned (.bool true) ∧ J gb (j + 1) W' ∧ Keep (fun i => i = tr ∨ i = tr + 1 ∨ i = L) W W') ∨ (e = .returned (.bool false) ∧ (fun _ : World => False) W')) := by
    refine Lib.hid ?_
    intro gb j W g0 g1 g2 c0 c1 c2 ea xa ya hlt hj gl glt H3
    rw [hJ] at hj
    obtain ⟨g1_, zs, z1, z2, z3, z4, z5, z6, z7, z8, z9, z10⟩ := hj
    refine round_open hrc z8 rfl ?_
    have HRC := Lib.hid hrc; clear hrc; have HJD := Lib.hid hJ; clear hJ
    clear J0 JA OS TB X Y M SB FB NB wL wD HB
    simp only [List.zip_toArray, List.zip_cons_cons, List.zip_nil_right, List.foldl_toArray, List.foldl_cons, List.foldl_nil, List.setIfInBounds_toArray, List.set_cons_succ, List.set_cons_zero]
    refine in_region (by rintro ⟨_, _, h⟩; exact h) rfl ?_
    go_wp2_with fail
    refine ⟨(Below.heap_alloc _ _ _ (Array.getElem?_eq_some_iff.1 z8).1).trans z8, wpIn_block ?_⟩
    refine in_region_any (by kernel_rfl) (by rintro ⟨_, _, _, h⟩; exact h) rfl ?_
    have q := below_new W (.cells #[.slice (some ⟨g0, 0, none⟩) n c0, .slice (some ⟨g1, 0, none⟩) n c1, .slice (some ⟨g2, 0, none⟩) n c2] 29)
    have NW := Blk.new W #[.slice (some ⟨g0, 0, none⟩) n c0, .slice (some ⟨g1, 0, none⟩) n c1, .slice (some ⟨g2, 0, none⟩) n c2] 29
    have HK : Keep (fun i => i = tr ∨ i = tr + 1 ∨ i = L) W ((W.alloc (.cells #[.slice (some ⟨g0, 0, none⟩) n c0, .slice (some ⟨g1, 0, none⟩) n c1, .slice (some ⟨g2, 0, none⟩) n c2] 29)).putObj L (.loop (rc .busy none))) := (Keep.of_below q).putObj (.inr (.inr rfl)) _
    have kl := (Array.getElem?_eq_some_iff.1 z8).1; have kd := (Array.getElem?_eq_some_iff.1 z9).1
    have e1 := H3.o0.later q; have e2 := H3.o1.later q; have e3 := H3.o2.later q
    replace z4 := z4.later q; replace z5 := z5.later q; replace z6 := z6.later q; replace z7 := z7.later q; replace z10 := z10.trans (q.mono z10.size)
    replace z9 := (q.block D kd).trans z9
    have zz := q.size; clear q
    have gp := grown_putObj (W.alloc (.cells #[.slice (some ⟨g0, 0, none⟩) n c0, .slice (some ⟨g1, 0, none⟩) n c1, .slice (some ⟨g2, 0, none⟩) n c2] 29)) L (.loop (rc .busy none))
    replace z4 := z4.grown gp (by simp; omega); replace z5 := z5.putObj (o := .loop (rc .busy none)) (show tr + 1 ≠ L by omega); replace z6 := z6.putObj (o := .loop (rc .busy none)) (show w.heap.size ≠ L by omega); replace z7 := z7.putObj (o := .loop (rc .busy none)) (show w.heap.size + 1 + 1 ≠ L by omega)
    replace NW := NW.putObj (o := .loop (rc .busy none)) (show W.heap.size ≠ L by omega)
    replace z10 := z10.grown gp z10.size (fun j hj => by cases hj; omega)
    replace z9 := (gp.block D (by simp; omega) (by simp; omega)).trans z9
    replace z8 := putObj_same (o := .loop (rc .busy none)) (show L < (W.alloc (.cells #[.slice (some ⟨g0, 0, none⟩) n c0, .slice (some ⟨g1, 0, none⟩) n c1, .slice (some ⟨g2, 0, none⟩) n c2] 29)).heap.size by simp; omega)
    have f1 := e1.row.grown gp (fun x hx _ => by cases hx; have := H3.o0.bound g0 rfl; simp; omega)
    have f2 := e2.row.grown gp (fun x hx _ => by cases hx; have := H3.o1.bound g1 rfl; simp; omega)
    have f3 := e3.row.grown gp (fun x hx _ => by cases hx; have := H3.o2.bound g2 rfl; simp; omega)
    clear e1 e2 e3 gp zz
    obtain ⟨nw, hnw⟩ : ∃ nw, nw = W.heap.size := ⟨_, rfl⟩
    try simp only [← hnw] at NW ⊢
    generalize ((W.alloc (.cells #[.slice (some ⟨g0, 0, none⟩) n c0, .slice (some ⟨g1, 0, none⟩) n c1, .slice (some ⟨g2, 0, none⟩) n c2] 29)).putObj L (.loop (rc .busy none))) = v1 at *
    refine wpAny_held_tail (Grows v1) 4 6 (by kernel_rfl) (fun _ _ _ _ _ h => h) (Grows.drew _) ?_
    simp only [List.take_succ_cons, List.take_zero, List.drop_succ_cons, List.drop_zero, Nat.reduceSub]
    have aslc : ∀ w, (isAgg 22).run Try.prog w = .ok false w := run_isAgg_plain Try.underlying22 rfl
    have afun : ∀ w, (isAgg 83).run Try.prog w = .ok false w := run_isAgg_plain Try.underlying83 rfl
    obtain ⟨z5c, z5f⟩ := z5.open; obtain ⟨z7c, z7f⟩ := z7.open
    (refine takes_load rfl _ rfl (.slice (some ⟨tr, 0, none⟩) j N) (load_cell aslc (z5c 0)) ?_; simp only [Act.put, List.setIfInBounds_toArray, List.set_cons_zero, List.set_cons_succ])
    (refine takes_load rfl _ rfl (.func (.func mf) #[] env) (load_cell afun (z7c 0)) ?_; simp only [Act.put, List.setIfInBounds_toArray, List.set_cons_zero, List.set_cons_succ])
    (refine takes_load rfl _ rfl (_) (fun w' hw' => run_loadVar_row w' _ _ _ _ _ _ (z6.later hw') Try.underlying32 rfl (by kernel_rfl)) ?_; simp only [Act.put, List.setIfInBounds_toArray, List.set_cons_zero, List.set_cons_succ])
    (refine takes_load rfl _ rfl (_) (fun w' hw' => run_loadVar_row w' _ _ _ _ _ _ (NW.later hw') Try.underlying29 rfl (by kernel_rfl)) ?_; simp only [Act.put, List.setIfInBounds_toArray, List.set_cons_zero, List.set_cons_succ])
    have w1 := Grows.drew v1
    generalize v1.drew = v0 at *
    change wpList _ _ _ _ _ _
    refine wpList_callE rfl mf fn env rfl hf hfn hfb [.agg #[.int .i64 (m : Int), .int .i64 (k : Int), .bool wb, .slice (some ⟨ba, oa, none⟩) xs.length ca, .slice (some ⟨bb, ob, none⟩) ys.length cb], .agg #[.slice (some ⟨g0, 0, none⟩) n c0, .slice (some ⟨g1, 0, none⟩) n c1, .slice (some ⟨g2, 0, none⟩) n c2]] rfl (((hM.out j hlt) v0 g0 g1 g2 c0 c1 c2 ea xa ya (z10.trans (Below.mono w1 z10.size)) (f1.later w1) (f2.later w1) (f3.later w1) H3.e H3.x H3.y).mono ?_)
    rintro e2 w2 ⟨z, rfl, ⟨hz1, hz2⟩, b⟩
    refine ⟨_, rfl, ?_⟩
    simp only [Act.put, List.setIfInBounds_toArray, List.set_cons_zero, List.set_cons_succ]
    have w2_ := w1.next b; clear w1 b
    refine ⟨w2_, ?_⟩
    change wpList _ _ _ _ _ _
    go_wp2_with fail
    refine ⟨w2_.next (below_new _ _), ?_⟩
    change wpList _ _ _ _ _ _
    have hw' : Below v1.heap.size v1 w2 := w2_
    have w' : True := trivial
    replace z4 := z4.later hw'; replace z5 := z5.later hw'; replace z6 := z6.later hw'; replace z7 := z7.later hw'; replace z10 := z10.trans (Below.mono hw' z10.size)
    have kl2 := (Array.getElem?_eq_some_iff.1 z8).1; have kd2 := (Array.getElem?_eq_some_iff.1 z9).1
    replace z8 := (Below.block hw' L kl2).trans z8; replace z9 := (Below.block hw' D kd2).trans z9
    replace HK := HK.trans (Keep.of_below hw')
    clear z5c z5f z7c z7f f1 f2 f3 hw' w' NW H3 kl kd w2_
    have HZ1 := Lib.hid hz1; have HZ2 := Lib.hid hz2; have HK_ := Lib.hid HK; have H8 := Lib.hid z8; have H9 := Lib.hid z9; clear hz1 hz2 HK z8 z9
    obtain ⟨ti, hi0, hi1, hi2, hi3⟩ := info_parts Try.infoF32
    have HI := Lib.hid hi0; have HI2 := Lib.hid hi2; clear hi0 hi1 hi2 hi3
    have t5 := z5.alloc (.cells #[.float .f32 z] 48)
    go_wp2_with (first | (at_builtin; refine wpList_append_own_spare _ rfl _ _ 22 rfl tr 48 ti 1 Try.underlying22 HI.out HI2.out tr j N (fvals zs) rfl (World.ownsRow.alloc z4 _) ⟨w2.heap.size, 0, none⟩ 1 1 [.float .f32 z] rfl rfl (one_news _ _) (one_cells _) (by omega) ?_; intro w9 hown9 hg9; obtain ⟨T9c, T9f⟩ := (t5.grown hg9 (by simp)).open) | fail)
    have l8 := (Array.getElem?_eq_some_iff.1 H8.out).1; have l9 := (Array.getElem?_eq_some_iff.1 H9.out).1
    have k8 : w9.heap[L]? = some (.loop (rc .busy none)) := (hg9.block L (by simp; omega) (by simp; omega)).trans ((Below.heap_alloc w2 _ L l8).trans H8.out)
    have k9 : w9.heap[D]? = some (.deferred (some [])) := (hg9.block D (by simp; omega) (by simp; omega)).trans ((Below.heap_alloc w2 _ D l9).trans H9.out)
    have r9 : RowF w9 tr (j + 1) N (zs ++ [z]) := by unfold RowF fvals; rw [List.map_append]; exact hown9
    have t9 := t5.grown hg9 (show some (tr + 1) ≠ some tr by simp)
    have x9 := (z6.alloc (.cells #[.float .f32 z] 48)).grown hg9 (show some w.heap.size ≠ some tr by simp; omega)
    have m9 := (z7.alloc (.cells #[.float .f32 z] 48)).grown hg9 (show some (w.heap.size + 1 + 1) ≠ some tr by simp; omega)
    have b9 : Below w.heap.size w w9 := (z10.alloc z10.size _).grown hg9 (by have := z10.size; simp; omega) (fun j hj => by cases hj; omega)
    have K9 := (HK_.out.trans (Keep.of_below (below_new w2 (.cells #[.float .f32 z] 48)))).trans (Keep.of_grown hg9 (.inl rfl))
    have l9w : L < w9.heap.size := (Array.getElem?_eq_some_iff.1 k8).1
    have c9 := K9.setCell (p := ⟨tr + 1, 0, none⟩) (.inr (.inl rfl)) (.slice (some ⟨tr, 0, none⟩) (j + 1) N)
    refine ⟨(heap_setCell_other w9 ⟨tr + 1, 0, none⟩ L (.slice (some ⟨tr, 0, none⟩) (j + 1) N) (show L ≠ tr + 1 by omega)).trans k8, ?_, c9.putObj (.inr (.inr rfl)) _⟩
    have gp := grown_putObj (w9.setCell ⟨tr + 1, 0, none⟩ (.slice (some ⟨tr, 0, none⟩) (j + 1) N)) L (.loop (rc .ready none))
    have b10 : Below w.heap.size w (w9.setCell ⟨tr + 1, 0, none⟩ (.slice (some ⟨tr, 0, none⟩) (j + 1) N)) := b9.setCell (show w.heap.size ≤ (⟨tr + 1, 0, none⟩ : Addr).block by dsimp only; omega) _
    rw [HJD.out]
    have r10 : RowF (w9.setCell ⟨tr + 1, 0, none⟩ (.slice (some ⟨tr, 0, none⟩) (j + 1) N)) tr (j + 1) N (zs ++ [z]) := ownsRow_setCell_other r9 (by simp [Value.ownBlock]) _
    have kD : (w9.setCell ⟨tr + 1, 0, none⟩ (.slice (some ⟨tr, 0, none⟩) (j + 1) N)).heap[D]? = some (.deferred (some [])) := (heap_setCell_other w9 ⟨tr + 1, 0, none⟩ D (.slice (some ⟨tr, 0, none⟩) (j + 1) N) (show D ≠ tr + 1 by omega)).trans k9
    refine ⟨g1_, zs ++ [z], by simp [z1], ?_, ?_, r10.grown gp (by simp; omega), (t9.set 0 (.slice (some ⟨tr, 0, none⟩) (j + 1) N)).putObj (by omega), (x9.setOther (show w.heap.size ≠ (⟨tr + 1, 0, none⟩ : Addr).block by dsimp only; omega) _).putObj (by omega), (m9.setOther (show w.heap.size + 1 + 1 ≠ (⟨tr + 1, 0, none⟩ : Addr).block by dsimp only; omega) _).putObj (by omega), putObj_same (by simp; omega), (World.putObj_heap_other (by omega)).trans kD, b10.grown gp b10.size (fun j hj => by cases hj; omega)⟩
    · intro q hq
      rcases List.mem_append.1 hq with h | h
      · exact z2 q h
      · simp at h; subst h; exact HZ1.out
    · intro i hi
      by_cases hij : i < j
      · have e : (zs ++ [z]).getD i 0 = zs.getD i 0 := by simp [List.getElem?_append, z1, hij]
        rw [e]; exact z3 i hij
      · obtain rfl : i = j := by omega
        have e : (zs ++ [z]).getD i 0 = z := by simp [List.getElem?_append, z1]
        rw [e]; exact HZ2.out
  have sba := Lib.hid (show ba < w.heap.size from by
    obtain ⟨b', o', e', hc⟩ := ha 0 _ (fvals_get (show 0 < xs.length by rw [LA.out, HN.out]; exact Nat.mul_pos (by omega) (by omega)))
    cases e'; exact lt_of_cell hc)
  have sbb := Lib.hid (show bb < w.heap.size from by
    obtain ⟨b', o', e', hc⟩ := hb 0 _ (fvals_get (show 0 < ys.length by rw [LB.out, HN.out]; exact Nat.mul_pos (by omega) (by omega)))
    cases e'; exact lt_of_cell hc)
  have va := sba.out; have vb := sbb.out
  refine (iterFields m k n N sb fb nb ba oa ca bb ob cb b0 b1 b2 o0 o1 o2 wb xs ys e x y (fun i => i = tr ∨ i = tr + 1 ∨ i = L) L J (fun _ => False) W1 SB FB NB (ha.later HB.out) (hb.later HB.out) LA.out LB.out (h0.later HB.out) (h1.later HB.out) (h2.later HB.out) L0.out L1.out L2.out q0 q1 q2 s1 s2 s3 s4 HN hN (by omega) (by omega) (by omega) (by omega) (fun i hi => by omega) J0 JA HY).mono ?_
  rintro e9 W2 ⟨⟨v9, rfl⟩, ⟨gb, h9⟩ | h9⟩
  case inr => exact h9.elim
  rw [hJ] at h9
  obtain ⟨g1_, zs, z1, z2, z3, z4, z5, z6, z7, z8, z9, z10⟩ := h9
  refine ⟨v9, rfl, .inl ⟨z8, ?_⟩⟩
  have kl := (Array.getElem?_eq_some_iff.1 z8).1
  have gp := grown_putObj W2 L (.loop (rc .exhausted none))
  replace z4 := z4.grown gp (by simp; omega); replace z5 := z5.putObj (o := .loop (rc .exhausted none)) (show tr + 1 ≠ L by omega)
  replace z10 := z10.grown gp z10.size (fun j hj => by cases hj; omega)
  replace z9 := (gp.block D (Array.getElem?_eq_some_iff.1 z9).1 (by simp; omega)).trans z9
  clear HY J0 JA gp z6 z7 z8
  generalize (W2.putObj L (.loop (rc .exhausted none))) = v2 at *
  obtain ⟨z5c, z5f⟩ := z5.open
  go_wp2
  refine ⟨by simp, .inl ⟨_, _, rfl, run_takeDeferred z9, ?_⟩⟩
  have gd := grown_putObj v2 D (.deferred none)
  refine ⟨.tuple #[.slice (some ⟨tr, 0, none⟩) N N, .bool true], by simp [results, Try.results55, go_sem], ?_⟩
  exact ⟨tr, ⟨N, rfl⟩, zs, z1, z2, z3, ((OwnV.of_owned z4).lower (by omega)).grown gd (fun x hx => by cases hx; simp; omega), z10.grown gd z10.size (fun j hj => by cases hj; omega)⟩
  end Go.Proofs.Ytedfbaeajofmnab
