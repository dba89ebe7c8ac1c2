/- What happens in a cell over steps: the model's answers. Conditions: those of each theorem. -/
import Derived.Test.YtedfbaeajofmnabTraceM
import Derived.Test.YtedfbaeajofmnabHeldG
import Derived.Test.YtedfbaeajofmnabBu20
import Derived.Deep.RegionHeld3
namespace Go.Proofs.Ytedfbaeajofmnab
open Go Ieee Go.RowKit
set_option linter.unusedVariables false

section
variable {P : Program} {ops : Array Oper} {Q : Exit → Act → World → Prop} {S : World → Prop}
theorem wp_region_held_tail {id : Nat} {a : Act} {w : World} {l : List Oper} (S : World → Prop) (k n : Nat) (hm : P.follows .mixedOrders = true) (hB : heldTailB .any l.toArray k n = true) (hQ : ∀ c a d v w, Q (.panic c) (Act.put a d v) w → Q (.panic c) a w) (hS : S w.drew)
    (h : takes P l.toArray S (fun a' => heldList P l.toArray S Q (fun a w => wpList P l.toArray Q (l.drop n) a w) ((l.drop k).take (n - k)) a' w.drew) (l.take k) a) : (Code.region id l.toArray true).wp P Q a w :=
  wp_region_any hm (wpAny_held_tail S k n hB hQ hS h)
theorem takes_plain {o : Oper} {a : Act} {rest : List Oper} {K : Act → Prop} {v : Value} (hw : Region.wanted o (yielded ops a.tmps) = true) (hr : ∀ w', S w' → (execOp a.eval o).run P w' = .ok (.value v) w') (h : takes P ops S K rest (a.put o.dst v)) : takes P ops S K (o :: rest) a := ⟨v, .inl ⟨hw, hr⟩, h⟩
end
theorem blk_not_row {W : World} {g : Nat} {cs : Array Value} {t e : TypeId} {base size k : Nat} {v : Value} {xs : List Value} (h : Blk W g cs t) (hte : t ≠ e) (hr : W.ownsRow base e size v k xs) : some g ≠ v.ownBlock := by
  rcases hr.2 with ⟨rfl, _⟩ | ⟨g', cap, cur, rfl, _, hc, _⟩
  · simp [Value.ownBlock]
  · simp only [Value.ownBlock]
    intro he
    cases he
    have h2 : W.heap[g]? = some (.cells cs t (0, 0)) := h
    rw [h2] at hc
    cases hc
    exact hte rfl
theorem outs_endT {w wr : World} {v : Value} {n : Nat} {zs : List Nat} (h : Outs w wr v n zs) : ∃ a c, v = .slice a n c ∧ OwnV wr w.heap.size a (fvals zs) ∧ Below w.heap.size w wr := by
  rcases h.2.1.2 with ⟨hv, h0⟩ | ⟨g, cap, cur, hv, _⟩
  · subst hv; subst h0
    exact ⟨none, 0, rfl, OwnV.of_owned h.2.1, h.2.2⟩
  · subst hv
    exact ⟨_, cap, rfl, OwnV.of_owned h.2.1, h.2.2⟩
theorem outs_set {w wr : World} {v : Value} {n : Nat} {zs : List Nat} (h : Outs w wr v n zs) {p : Addr} (hp : some p.block ≠ v.ownBlock) (hw : w.heap.size ≤ p.block) (u : Value) : Outs w (wr.setCell p u) v n zs :=
  ⟨h.1, ownsRow_setCell_other h.2.1 (fun e => hp e.symm) u, h.2.2.setCell hw u⟩

set_option maxHeartbeats 16000000 in
set_option maxRecDepth 100000 in
theorem specTraceOfL (wd hi : Int) (wb : Bool) (a b : Option Addr) (ca cb : Nat) (xs ys : List Nat) (a0 a1 a2 : Option Addr) (c0 c1 c2 : Nat) (e x y : List Nat) (u v steps : Int) (w : World) (ha : RowV w a (fvals xs)) (hb : RowV w b (fvals ys)) (qa : ∀ z ∈ xs, z < 2 ^ 32) (qb : ∀ z ∈ ys, z < 2 ^ 32) (hx : xs.length ≤ maxLen) (hy : ys.length ≤ maxLen) (h0 : RowV w a0 (fvals e)) (h1 : RowV w a1 (fvals x)) (h2 : RowV w a2 (fvals y)) (q0 : ∀ z ∈ e, z < 2 ^ 32) (q1 : ∀ z ∈ x, z < 2 ^ 32) (q2 : ∀ z ∈ y, z < 2 ^ 32) (m0 : e.length ≤ maxLen) (m1 : x.length ≤ maxLen) (m2 : y.length ≤ maxLen) (wu : (Lit.int .i64 u).wf = true) (wv : (Lit.int .i64 v).wf = true) (ws : (Lit.int .i64 steps).wf = true) :
    Calls Try.prog 25 #[.agg #[.int .i64 wd, .int .i64 hi, .bool wb, .slice a xs.length ca, .slice b ys.length cb], .agg #[.slice a0 e.length c0, .slice a1 x.length c1, .slice a2 y.length c2], .int .i64 u, .int .i64 v, .int .i64 steps] w (GaveLO w (trB wd hi wb xs ys e x y u v steps) (trM wd hi wb xs ys e x y u v steps)) := by
  have HTB : Hid (trB wd hi wb xs ys e x y u v steps = ((fieldB wd hi wb xs ys e x y && isRunB steps) && cellB wd hi u v)) := Lib.hid rfl
  rcases hfv : fieldB wd hi wb xs ys e x y with _ | _
  · skip
    rw [HTB.out, hfv]
    have H_fb := Lib.hid hfv; clear hfv
    have X := Blk.new w #[.int .i64 wd, .int .i64 hi, .bool wb, .slice a xs.length ca, .slice b ys.length cb] 32
    have Y := Blk.new1 w (.cells #[.int .i64 wd, .int .i64 hi, .bool wb, .slice a xs.length ca, .slice b ys.length cb] 32) #[.slice a0 e.length c0, .slice a1 x.length c1, .slice a2 y.length c2] 29
    replace X := X.alloc (.cells #[.slice a0 e.length c0, .slice a1 x.length c1, .slice a2 y.length c2] 29)
    have HB : Hid (Below w.heap.size w ((w.alloc (.cells #[.int .i64 wd, .int .i64 hi, .bool wb, .slice a xs.length ca, .slice b ys.length cb] 32)).alloc (.cells #[.slice a0 e.length c0, .slice a1 x.length c1, .slice a2 y.length c2] 29))) := Lib.hid (((Below.refl w.heap.size w).alloc (by simp <;> omega) _).alloc (by simp <;> omega) _)
    go_enter Try.func25, Try.ntmps25
    go_wp2_with fail
    generalize ((w.alloc (.cells #[.int .i64 wd, .int .i64 hi, .bool wb, .slice a xs.length ca, .slice b ys.length cb] 32)).alloc (.cells #[.slice a0 e.length c0, .slice a1 x.length c1, .slice a2 y.length c2] 29)) = u1 at *
    refine (specBoth _ _ _ _ _ _ _ _ _ _ _ _ _ _ _ _ _ _ _ _ _ X Y (ha.later HB.out) (hb.later HB.out) hx hy (h0.later HB.out) (h1.later HB.out) (h2.later HB.out) m0 m1 m2).mono ?_
    rintro r u2 ⟨rfl, nq, hw⟩
    have q : Below u1.heap.size u1 u2 := by rw [hw]; exact below_drewN (Below.refl _ _) _
    clear hw
    replace X := X.later q
    replace Y := Y.later q
    replace HB := Lib.hid (HB.out.trans (q.mono HB.out.size))
    clear q
    rw [H_fb.out]
    go_wp2
    go_ret2
    exact gave_none HB.out
  obtain ⟨m, k, n, rfl, rfl, hn, s1, s2, s3, s4, la, lb, l0, l1, l2, np, n256⟩ := field_nat hfv
  obtain ⟨b0, o0, rfl⟩ := row_at h0 (show 0 < e.length by omega)
  obtain ⟨b1, o1, rfl⟩ := row_at h1 (show 0 < x.length by omega)
  obtain ⟨b2, o2, rfl⟩ := row_at h2 (show 0 < y.length by omega)
  obtain ⟨ba, oa, rfl⟩ := row_at ha (show 0 < xs.length by omega)
  obtain ⟨bb, ob, rfl⟩ := row_at hb (show 0 < ys.length by omega)
  have HN := Lib.hid hn; have LA := Lib.hid la; have LB := Lib.hid lb; have L0 := Lib.hid l0; have L1 := Lib.hid l1; have L2 := Lib.hid l2; clear hn la lb l0 l1 l2
  have H_fb := Lib.hid hfv; clear hfv
  rcases hcv : cellB (m : Int) (k : Int) u v with _ | _
  · skip
    rw [HTB.out, hcv, Bool.and_false]
    have H_c := Lib.hid hcv; clear hcv
    have X := Blk.new w #[.int .i64 (m : Int), .int .i64 (k : Int), .bool wb, .slice (some ⟨ba, oa, none⟩) xs.length ca, .slice (some ⟨bb, ob, none⟩) ys.length cb] 32
    have Y := Blk.new1 w (.cells #[.int .i64 (m : Int), .int .i64 (k : Int), .bool wb, .slice (some ⟨ba, oa, none⟩) xs.length ca, .slice (some ⟨bb, ob, none⟩) ys.length cb] 32) #[.slice (some ⟨b0, o0, none⟩) e.length c0, .slice (some ⟨b1, o1, none⟩) x.length c1, .slice (some ⟨b2, o2, none⟩) y.length c2] 29
    replace X := X.alloc (.cells #[.slice (some ⟨b0, o0, none⟩) e.length c0, .slice (some ⟨b1, o1, none⟩) x.length c1, .slice (some ⟨b2, o2, none⟩) y.length c2] 29)
    have HB : Hid (Below w.heap.size w ((w.alloc (.cells #[.int .i64 (m : Int), .int .i64 (k : Int), .bool wb, .slice (some ⟨ba, oa, none⟩) xs.length ca, .slice (some ⟨bb, ob, none⟩) ys.length cb] 32)).alloc (.cells #[.slice (some ⟨b0, o0, none⟩) e.length c0, .slice (some ⟨b1, o1, none⟩) x.length c1, .slice (some ⟨b2, o2, none⟩) y.length c2] 29))) := Lib.hid (((Below.refl w.heap.size w).alloc (by simp <;> omega) _).alloc (by simp <;> omega) _)
    go_enter Try.func25, Try.ntmps25
    go_wp2_with fail
    generalize ((w.alloc (.cells #[.int .i64 (m : Int), .int .i64 (k : Int), .bool wb, .slice (some ⟨ba, oa, none⟩) xs.length ca, .slice (some ⟨bb, ob, none⟩) ys.length cb] 32)).alloc (.cells #[.slice (some ⟨b0, o0, none⟩) e.length c0, .slice (some ⟨b1, o1, none⟩) x.length c1, .slice (some ⟨b2, o2, none⟩) y.length c2] 29)) = u1 at *
    refine (specBoth _ _ _ _ _ _ _ _ _ _ _ _ _ _ _ _ _ _ _ _ _ X Y (ha.later HB.out) (hb.later HB.out) hx hy (h0.later HB.out) (h1.later HB.out) (h2.later HB.out) m0 m1 m2).mono ?_
    rintro r u2 ⟨rfl, nq, hw⟩
    have q : Below u1.heap.size u1 u2 := by rw [hw]; exact below_drewN (Below.refl _ _) _
    clear hw
    replace X := X.later q
    replace Y := Y.later q
    replace HB := Lib.hid (HB.out.trans (q.mono HB.out.size))
    clear q
    rw [H_fb.out]
    go_wp2_with fail
    refine (specCell _ _ _ _ _ _ _ _ _ X (by omega) (by omega) (by omega) (by omega)).mono ?_
    rintro r w5 ⟨rfl, rfl⟩
    rw [H_c.out]
    go_wp2
    go_ret2
    exact gave_none HB.out
  have H_c := Lib.hid hcv; clear hcv
  rcases hst : isRunB steps with _ | _
  · skip
    rw [HTB.out, hst, Bool.and_false, Bool.false_and]
    have HST : Hid (decide (0 ≤ steps ∧ steps ≤ 64) = false) := Lib.hid hst; clear hst
    have X := Blk.new w #[.int .i64 (m : Int), .int .i64 (k : Int), .bool wb, .slice (some ⟨ba, oa, none⟩) xs.length ca, .slice (some ⟨bb, ob, none⟩) ys.length cb] 32
    have Y := Blk.new1 w (.cells #[.int .i64 (m : Int), .int .i64 (k : Int), .bool wb, .slice (some ⟨ba, oa, none⟩) xs.length ca, .slice (some ⟨bb, ob, none⟩) ys.length cb] 32) #[.slice (some ⟨b0, o0, none⟩) e.length c0, .slice (some ⟨b1, o1, none⟩) x.length c1, .slice (some ⟨b2, o2, none⟩) y.length c2] 29
    replace X := X.alloc (.cells #[.slice (some ⟨b0, o0, none⟩) e.length c0, .slice (some ⟨b1, o1, none⟩) x.length c1, .slice (some ⟨b2, o2, none⟩) y.length c2] 29)
    have HB : Hid (Below w.heap.size w ((w.alloc (.cells #[.int .i64 (m : Int), .int .i64 (k : Int), .bool wb, .slice (some ⟨ba, oa, none⟩) xs.length ca, .slice (some ⟨bb, ob, none⟩) ys.length cb] 32)).alloc (.cells #[.slice (some ⟨b0, o0, none⟩) e.length c0, .slice (some ⟨b1, o1, none⟩) x.length c1, .slice (some ⟨b2, o2, none⟩) y.length c2] 29))) := Lib.hid (((Below.refl w.heap.size w).alloc (by simp <;> omega) _).alloc (by simp <;> omega) _)
    go_enter Try.func25, Try.ntmps25
    go_wp2_with fail
    generalize ((w.alloc (.cells #[.int .i64 (m : Int), .int .i64 (k : Int), .bool wb, .slice (some ⟨ba, oa, none⟩) xs.length ca, .slice (some ⟨bb, ob, none⟩) ys.length cb] 32)).alloc (.cells #[.slice (some ⟨b0, o0, none⟩) e.length c0, .slice (some ⟨b1, o1, none⟩) x.length c1, .slice (some ⟨b2, o2, none⟩) y.length c2] 29)) = u1 at *
    refine (specBoth _ _ _ _ _ _ _ _ _ _ _ _ _ _ _ _ _ _ _ _ _ X Y (ha.later HB.out) (hb.later HB.out) hx hy (h0.later HB.out) (h1.later HB.out) (h2.later HB.out) m0 m1 m2).mono ?_
    rintro r u2 ⟨rfl, nq, hw⟩
    have q : Below u1.heap.size u1 u2 := by rw [hw]; exact below_drewN (Below.refl _ _) _
    clear hw
    replace X := X.later q
    replace Y := Y.later q
    replace HB := Lib.hid (HB.out.trans (q.mono HB.out.size))
    clear q
    rw [H_fb.out]
    go_wp2_with fail
    refine (specCell _ _ _ _ _ _ _ _ _ X (by omega) (by omega) (by omega) (by omega)).mono ?_
    rintro r w5 ⟨rfl, rfl⟩
    rw [H_c.out]
    go_wp2_with fail
    refine (l00In_any _ _ _ _).mono ?_
    rintro r w5 ⟨rfl, rfl⟩
    rw [HST.out]
    go_wp2
    go_ret2
    exact gave_none HB.out
  rw [HTB.out, hst, H_c.out, H_fb.out]
  simp only [Bool.and_true]
  have HST : Hid (decide (0 ≤ steps ∧ steps ≤ 64) = true) := Lib.hid hst
  obtain ⟨st0, st1⟩ : 0 ≤ steps ∧ steps ≤ 64 := of_decide_eq_true hst; clear hst HTB
  obtain ⟨N, rfl⟩ := Int.eq_ofNat_of_zero_le st0
  obtain ⟨j1, j2, j3, j4⟩ := cell_in H_c.out
  have hmk : (m : Int) * (k : Int) ≤ 256 := by have := HN.out; have e9 : ((m * k : Nat) : Int) = (m : Int) * (k : Int) := Int.natCast_mul m k; omega
  obtain ⟨i1, i2, i3, i4⟩ := index_in H_c.out hmk
  obtain ⟨q, hq⟩ := Int.eq_ofNat_of_zero_le i2
  have hqn : q < n := by have := HN.out; have e9 : ((m * k : Nat) : Int) = (m : Int) * (k : Int) := Int.natCast_mul m k; omega
  have HZ : Hid (u % (m : Int) + (m : Int) * (v % (k : Int)) = (q : Int)) := Lib.hid (by rw [Int.emod_eq_of_lt (by omega) (by omega), Int.emod_eq_of_lt (by omega) (by omega), hq])
  have HQ := Lib.hid hq; clear hq
  have e1 : (trM (m : Int) (k : Int) wb xs ys e x y u v (N : Int)) = (List.range N).map (fun j => (runT wb m k (nums xs) (nums ys) ⟨nums e, nums x, nums y⟩ (j + 1)).e q) := by unfold trM; rw [HQ.out]; rfl
  rw [e1]; clear e1
  have X := Blk.new w #[.int .i64 (m : Int), .int .i64 (k : Int), .bool wb, .slice (some ⟨ba, oa, none⟩) xs.length ca, .slice (some ⟨bb, ob, none⟩) ys.length cb] 32
  have Y := Blk.new1 w (.cells #[.int .i64 (m : Int), .int .i64 (k : Int), .bool wb, .slice (some ⟨ba, oa, none⟩) xs.length ca, .slice (some ⟨bb, ob, none⟩) ys.length cb] 32) #[.slice (some ⟨b0, o0, none⟩) e.length c0, .slice (some ⟨b1, o1, none⟩) x.length c1, .slice (some ⟨b2, o2, none⟩) y.length c2] 29
  replace X := X.alloc (.cells #[.slice (some ⟨b0, o0, none⟩) e.length c0, .slice (some ⟨b1, o1, none⟩) x.length c1, .slice (some ⟨b2, o2, none⟩) y.length c2] 29)
  have HB : Hid (Below w.heap.size w ((w.alloc (.cells #[.int .i64 (m : Int), .int .i64 (k : Int), .bool wb, .slice (some ⟨ba, oa, none⟩) xs.length ca, .slice (some ⟨bb, ob, none⟩) ys.length cb] 32)).alloc (.cells #[.slice (some ⟨b0, o0, none⟩) e.length c0, .slice (some ⟨b1, o1, none⟩) x.length c1, .slice (some ⟨b2, o2, none⟩) y.length c2] 29))) := Lib.hid (((Below.refl w.heap.size w).alloc (by simp <;> omega) _).alloc (by simp <;> omega) _)
  go_enter Try.func25, Try.ntmps25
  go_wp2_with fail
  generalize ((w.alloc (.cells #[.int .i64 (m : Int), .int .i64 (k : Int), .bool wb, .slice (some ⟨ba, oa, none⟩) xs.length ca, .slice (some ⟨bb, ob, none⟩) ys.length cb] 32)).alloc (.cells #[.slice (some ⟨b0, o0, none⟩) e.length c0, .slice (some ⟨b1, o1, none⟩) x.length c1, .slice (some ⟨b2, o2, none⟩) y.length c2] 29)) = u1 at *
  refine (specBoth _ _ _ _ _ _ _ _ _ _ _ _ _ _ _ _ _ _ _ _ _ X Y (ha.later HB.out) (hb.later HB.out) hx hy (h0.later HB.out) (h1.later HB.out) (h2.later HB.out) m0 m1 m2).mono ?_
  rintro r u2 ⟨rfl, nq, hw⟩
  have q : Below u1.heap.size u1 u2 := by rw [hw]; exact below_drewN (Below.refl _ _) _
  clear hw
  replace X := X.later q
  replace Y := Y.later q
  replace HB := Lib.hid (HB.out.trans (q.mono HB.out.size))
  clear q
  rw [H_fb.out]
  go_wp2_with fail
  refine (specCell _ _ _ _ _ _ _ _ _ X (by omega) (by omega) (by omega) (by omega)).mono ?_
  rintro r w5 ⟨rfl, rfl⟩
  rw [H_c.out]
  go_wp2_with fail
  refine (l00In_any _ _ _ _).mono ?_
  rintro r w5 ⟨rfl, rfl⟩
  rw [HST.out]
  have OS := Lib.hid (outs_start u2)
  have q9 := below_new u2 (.cells #[] 48)
  have HSU := Lib.hid (show w.heap.size ≤ u2.heap.size from HB.out.size)
  replace X := X.later q9
  replace Y := Y.later q9
  replace HB := Lib.hid (HB.out.trans (q9.mono HB.out.size))
  clear q9
  obtain ⟨Xc, Xf⟩ := X.open
  obtain ⟨Yc, Yf⟩ := Y.open
  go_wp2_with fail
  clear Xc Xf
  clear Yc Yf
  refine (specOwn _ b0 b1 b2 o0 o1 o2 c0 c1 c2 n e x y _ Y (h0.later HB.out) (h1.later HB.out) (h2.later HB.out) L0.out L1.out L2.out np n256).mono ?_
  rintro r w2 ⟨g0, g1, g2, k0, k1, k2, rfl, y0, y1, y2, lt01, lt12, b⟩
  have bx := X.lt; have szw1 : u2.heap.size + 1 = ((u2.alloc (.cells #[] 48))).heap.size := by simp
  have hu0 := HSU.out
  replace X := X.later b; clear Y
  have OS2 := Lib.hid (outs_later OS.out b); clear OS
  replace HB := Lib.hid (HB.out.trans (b.mono HB.out.size))
  replace y0 := y0.lower (show u2.heap.size ≤ ((u2.alloc (.cells #[] 48))).heap.size by omega); replace y1 := y1.lower (show u2.heap.size ≤ ((u2.alloc (.cells #[] 48))).heap.size by omega); replace y2 := y2.lower (show u2.heap.size ≤ ((u2.alloc (.cells #[] 48))).heap.size by omega)
  have szb := b.size; clear b
  have lt0 := (y0.span _ rfl).2; have lt1 := (y1.span _ rfl).2; have lt2 := (y2.span _ rfl).2
  dsimp only at lt0 lt1 lt2
  have O := Blk.new w2 #[.slice (some ⟨g0, 0, none⟩) n k0, .slice (some ⟨g1, 0, none⟩) n k1, .slice (some ⟨g2, 0, none⟩) n k2] 29
  have b := below_new w2 (.cells #[.slice (some ⟨g0, 0, none⟩) n k0, .slice (some ⟨g1, 0, none⟩) n k1, .slice (some ⟨g2, 0, none⟩) n k2] 29)
  replace X := X.later b; replace y0 := y0.later b; replace y1 := y1.later b; replace y2 := y2.later b
  replace OS2 := Lib.hid (outs_later OS2.out b)
  replace HB := Lib.hid (HB.out.trans (b.mono HB.out.size)); clear b
  obtain ⟨oo, hob⟩ : ∃ oo, oo = w2.heap.size := ⟨_, rfl⟩
  have n0 : g0 ≠ oo := by omega
  have n1 : g1 ≠ oo := by omega
  have n2 : g2 ≠ oo := by omega
  have hol : w.heap.size ≤ oo := by omega
  have hou : u2.heap.size < oo := by omega
  have O2 : Blk (w2.alloc (.cells #[.slice (some ⟨g0, 0, none⟩) n k0, .slice (some ⟨g1, 0, none⟩) n k1, .slice (some ⟨g2, 0, none⟩) n k2] 29)) oo #[.slice (some ⟨g0, 0, none⟩) n k0, .slice (some ⟨g1, 0, none⟩) n k1, .slice (some ⟨g2, 0, none⟩) n k2] 29 := by rw [hob]; exact O
  clear O; have O := O2; clear O2
  go_upto_region 5 with (fail)
  generalize (w2.alloc (.cells #[.slice (some ⟨g0, 0, none⟩) n k0, .slice (some ⟨g1, 0, none⟩) n k1, .slice (some ⟨g2, 0, none⟩) n k2] 29)) = u3 at *
  rw [← hob]
  clear hob lt0 lt1 lt2 lt01 lt12 szb szw1
  have NF := Lib.hid (And.intro n0 (And.intro n1 n2)); clear n0 n1 n2
  have HT0 : Hid (TAg n e x y (runT wb m k (nums xs) (nums ys) ⟨nums e, nums x, nums y⟩ 0)) := Lib.hid ⟨lag_self L0.out q0, lag_self L1.out q1, lag_self L2.out q2⟩
  go_loopw [12, 4] (fun vv sv wr => ∃ (lv : Value) (r g0 g1 g2 k0 k1 k2 : Nat) (e' x' y' zs : List Nat), lv = vv ∧ r ≤ N ∧ sv = .int .i64 r ∧ TAg n e' x' y' (runT wb m k (nums xs) (nums ys) ⟨nums e, nums x, nums y⟩ (N - r)) ∧ OwnV wr u2.heap.size (some ⟨g0, 0, none⟩) (fvals e') ∧ OwnV wr u2.heap.size (some ⟨g1, 0, none⟩) (fvals x') ∧ OwnV wr u2.heap.size (some ⟨g2, 0, none⟩) (fvals y') ∧ (g0 ≠ oo ∧ g1 ≠ oo ∧ g2 ≠ oo) ∧ Blk wr oo #[.slice (some ⟨g0, 0, none⟩) n k0, .slice (some ⟨g1, 0, none⟩) n k1, .slice (some ⟨g2, 0, none⟩) n k2] 29 ∧ Blk wr w.heap.size #[.int .i64 (m : Int), .int .i64 (k : Int), .bool wb, .slice (some ⟨ba, oa, none⟩) xs.length ca, .slice (some ⟨bb, ob, none⟩) ys.length cb] 32 ∧ Outs u2 wr lv (N - r) zs ∧ (∀ z ∈ zs, z < 2 ^ 32) ∧ (∀ j, j < N - r → canon .f32 (zs.getD j 0) = (runT wb m k (nums xs) (nums ys) ⟨nums e, nums x, nums y⟩ (j + 1)).e q) ∧ Below w.heap.size w wr) (fun _ sv _ => (intOf sv).toNat)
  case atStart => exact ⟨_, N, g0, g1, g2, k0, k1, k2, e, x, y, [], rfl, Nat.le_refl _, rfl, by rw [Nat.sub_self]; exact HT0.out, y0, y1, y2, NF.out, O, X, by rw [Nat.sub_self]; exact OS2.out, by simp, fun j hj => absurd hj (by omega), HB.out⟩
  clear HT0 y0 y1 y2 NF O X OS2 HB
  obtain ⟨lv, r, p0, p1, p2, t0, t1, t2, e', x', y', zs, rfl, hr, rfl, ht, y0, y1, y2, nf, O, X, os, hz1, hz2, hb_⟩ := hrel
  have HT := Lib.hid ht; have NF := Lib.hid nf; have HB := Lib.hid hb_; have OS := Lib.hid os; have HZ1 := Lib.hid hz1; have HZ2 := Lib.hid hz2; clear ht nf hb_ os hz1 hz2
  by_cases hlt : 0 < r
  · skip
    have O2 : Hid (Blk wr oo #[.slice (some ⟨p0, 0, none⟩) e'.length t0, .slice (some ⟨p1, 0, none⟩) x'.length t1, .slice (some ⟨p2, 0, none⟩) y'.length t2] 29) := Lib.hid (by rw [HT.out.e.1, HT.out.x.1, HT.out.y.1]; exact O)
    have HNR : Hid (runT wb m k (nums xs) (nums ys) ⟨nums e, nums x, nums y⟩ (N - (r - 1)) = stT wb m k (nums xs) (nums ys) (runT wb m k (nums xs) (nums ys) ⟨nums e, nums x, nums y⟩ (N - r))) := Lib.hid (by rw [show N - (r - 1) = (N - r) + 1 by omega]; rfl)
    have hri : (0 : Int) < (r : Int) := by omega
    have HRI : Hid ((r : Int) - 1 = ((r - 1 : Nat) : Int)) := Lib.hid (by omega)
    have olt := O.lt; have xlt := X.lt
    go_wp2_with fail
    refine (specStepT w.heap.size oo m k n ba oa ca bb ob cb p0 p1 p2 0 0 0 t0 t1 t2 wb xs ys e' x' y' _ wr X O2.out (ha.later HB.out) (hb.later HB.out) LA.out LB.out y0.row y1.row y2.row HT.out s1 s2 s3 s4 HN).mono ?_
    rintro r2 v1 ⟨f0, f1, f2, d0, d1, d2, e2, x2, y2_, rfl, z0, z1, z2, ht2, b⟩
    have sz := HB.out.size
    have zb0 := z0.bound f0 rfl; have zb1 := z1.bound f1 rfl; have zb2 := z2.bound f2 rfl
    replace O := O.later b; replace X := X.later b
    have OSr := OS.out.2.1.lt
    replace OS := Lib.hid (outs_later OS.out b)
    have VN : some oo ≠ lv.ownBlock := blk_not_row O (by decide) OS.out.2.1
    have VX : some w.heap.size ≠ lv.ownBlock := blk_not_row X (by decide) OS.out.2.1
    replace HB := Lib.hid (HB.out.trans (b.mono HB.out.size)); clear b O2
    clear y0 y1 y2
    have m0 : f0 ≠ oo := by omega
    have m1 : f1 ≠ oo := by omega
    have m2 : f2 ≠ oo := by omega
    have v0n : some f0 ≠ lv.ownBlock := fun h => by have := OSr f0 h.symm; omega
    have v1n : some f1 ≠ lv.ownBlock := fun h => by have := OSr f1 h.symm; omega
    have v2n : some f2 ≠ lv.ownBlock := fun h => by have := OSr f2 h.symm; omega
    have nx : w.heap.size ≠ oo := by omega
    obtain ⟨Oc, Of⟩ := O.open
    go_upto_region 8 with (fail)
    clear Oc Of
    have O3 : Blk (((v1.setCell ⟨oo, 0, none⟩ (.slice (some ⟨f0, 0, none⟩) n d0)).setCell ⟨oo, 1, none⟩ (.slice (some ⟨f1, 0, none⟩) n d1)).setCell ⟨oo, 2, none⟩ (.slice (some ⟨f2, 0, none⟩) n d2)) oo #[.slice (some ⟨f0, 0, none⟩) n d0, .slice (some ⟨f1, 0, none⟩) n d1, .slice (some ⟨f2, 0, none⟩) n d2] 29 := ((O.set 0 _).set 1 _).set 2 _
    replace X := ((X.setOther (p := ⟨oo, 0, none⟩) nx (.slice (some ⟨f0, 0, none⟩) n d0)).setOther (p := ⟨oo, 1, none⟩) nx (.slice (some ⟨f1, 0, none⟩) n d1)).setOther (p := ⟨oo, 2, none⟩) nx (.slice (some ⟨f2, 0, none⟩) n d2)
    replace z0 := (((z0.lower (show u2.heap.size ≤ wr.heap.size by omega)).set (p := ⟨oo, 0, none⟩) (ne_block (h := oo) m0) (.slice (some ⟨f0, 0, none⟩) n d0)).set (p := ⟨oo, 1, none⟩) (ne_block (h := oo) m0) (.slice (some ⟨f1, 0, none⟩) n d1)).set (p := ⟨oo, 2, none⟩) (ne_block (h := oo) m0) (.slice (some ⟨f2, 0, none⟩) n d2)
    replace z1 := (((z1.lower (show u2.heap.size ≤ wr.heap.size by omega)).set (p := ⟨oo, 0, none⟩) (ne_block (h := oo) m1) (.slice (some ⟨f0, 0, none⟩) n d0)).set (p := ⟨oo, 1, none⟩) (ne_block (h := oo) m1) (.slice (some ⟨f1, 0, none⟩) n d1)).set (p := ⟨oo, 2, none⟩) (ne_block (h := oo) m1) (.slice (some ⟨f2, 0, none⟩) n d2)
    replace z2 := (((z2.lower (show u2.heap.size ≤ wr.heap.size by omega)).set (p := ⟨oo, 0, none⟩) (ne_block (h := oo) m2) (.slice (some ⟨f0, 0, none⟩) n d0)).set (p := ⟨oo, 1, none⟩) (ne_block (h := oo) m2) (.slice (some ⟨f1, 0, none⟩) n d1)).set (p := ⟨oo, 2, none⟩) (ne_block (h := oo) m2) (.slice (some ⟨f2, 0, none⟩) n d2)
    replace HB := Lib.hid (((HB.out.setCell (p := ⟨oo, 0, none⟩) hol (.slice (some ⟨f0, 0, none⟩) n d0)).setCell (p := ⟨oo, 1, none⟩) hol (.slice (some ⟨f1, 0, none⟩) n d1)).setCell (p := ⟨oo, 2, none⟩) hol (.slice (some ⟨f2, 0, none⟩) n d2))
    have hou2 : u2.heap.size ≤ oo := by omega
    replace OS := Lib.hid (outs_set (outs_set (outs_set OS.out (p := ⟨oo, 0, none⟩) VN hou2 (.slice (some ⟨f0, 0, none⟩) n d0)) (p := ⟨oo, 1, none⟩) VN hou2 (.slice (some ⟨f1, 0, none⟩) n d1)) (p := ⟨oo, 2, none⟩) VN hou2 (.slice (some ⟨f2, 0, none⟩) n d2))
    clear O
    generalize (((v1.setCell ⟨oo, 0, none⟩ (.slice (some ⟨f0, 0, none⟩) n d0)).setCell ⟨oo, 1, none⟩ (.slice (some ⟨f1, 0, none⟩) n d1)).setCell ⟨oo, 2, none⟩ (.slice (some ⟨f2, 0, none⟩) n d2)) = v2 at *
    refine wp_region_noPanic ?_
    refine wp_region_held_tail (Grows v2) 5 9 (by kernel_rfl) (by kernel_rfl) (fun _ _ _ _ _ h => h) (Grows.drew _) ?_
    simp only [List.take_succ_cons, List.take_zero, List.drop_succ_cons, List.drop_zero, Nat.reduceSub]
    have aslc : ∀ w, (isAgg 22).run Try.prog w = .ok false w := fun w => by kernel_rfl
    obtain ⟨Oc, Of⟩ := O3.open
    (refine takes_plain (v := ?_) rfl ?_ ?_; rotate_left; focus (intro w9 _; go_simp <;> with_reducible rfl)); (simp only [Act.put, List.setIfInBounds_toArray, List.set_cons_zero, List.set_cons_succ])
    (refine takes_plain (v := ?_) rfl ?_ ?_; rotate_left; focus (intro w9 _; go_simp <;> with_reducible rfl)); (simp only [Act.put, List.setIfInBounds_toArray, List.set_cons_zero, List.set_cons_succ])
    (refine takes_load rfl _ rfl (.slice (some ⟨f0, 0, none⟩) n d0) (load_cell aslc (Oc 0)) ?_; simp only [Act.put, List.setIfInBounds_toArray, List.set_cons_zero, List.set_cons_succ])
    (refine takes_plain (v := ?_) rfl ?_ ?_; rotate_left; focus (intro w9 _; go_simp <;> with_reducible rfl)); (simp only [Act.put, List.setIfInBounds_toArray, List.set_cons_zero, List.set_cons_succ])
    (refine takes_plain (v := ?_) rfl ?_ ?_; rotate_left; focus (intro w9 _; go_simp <;> with_reducible rfl)); (simp only [Act.put, List.setIfInBounds_toArray, List.set_cons_zero, List.set_cons_succ])
    clear Oc Of
    have hqe : q < e2.length := by rw [ht2.e.1]; exact hqn
    have zc := row_num z0.row hqe
    rw [Nat.zero_add] at zc
    have HEZ : Hid (canon .f32 (e2.getD q 0) = (runT wb m k (nums xs) (nums ys) ⟨nums e, nums x, nums y⟩ (N - (r - 1))).e q) := Lib.hid (by rw [HNR.out]; exact ht2.e.2.2 q hqn)
    have HEB : Hid (e2.getD q 0 < 2 ^ 32) := Lib.hid (by rw [getD_get hqe]; exact ht2.e.2.1 _ (List.getElem_mem hqe))
    have HT2 := Lib.hid ht2; clear ht2 hqe
    generalize e2.getD q 0 = z at *
    have hqi : (q : Int) < (n : Int) := by omega
    have w1 := Grows.drew v2
    generalize v2.drew = v3 at *
    change wpList _ _ _ _ _ _
    go_wp2_with fail
    refine (specAtV w.heap.size m k q u v wb _ _ _ (X.later w1) s1 s2 s3 s4 (by omega) (by omega) (by omega) (by omega) HZ).mono ?_
    rintro r5 v4 ⟨rfl, b4⟩
    have w4 := w1.next b4; clear w1 b4
    have zc4 := cell_on zc w4
    go_wp2_with fail
    refine ⟨w4, ?_⟩
    change wpList _ _ _ _ _ _
    go_wp2_with fail
    refine ⟨w4, ?_⟩
    change wpList _ _ _ _ _ _
    go_wp2_with fail
    refine ⟨w4, ?_⟩
    change wpList _ _ _ _ _ _
    go_wp2_with fail
    have w5 := w4.next (below_new v4 (.cells #[.float .f32 z] 48))
    refine ⟨w5, ?_⟩
    change wpList _ _ _ _ _ _
    obtain ⟨ti, hi0, hz0, hz1, hz2⟩ := info_parts Try.infoF32
    have HI := Lib.hid hi0; have HZ0 := Lib.hid hz0; have HZ1_ := Lib.hid hz1; have HZ2_ := Lib.hid hz2; clear hi0 hz0 hz1 hz2
    have HO := Lib.hid (outs_later OS.out w4)
    have hown := HO.out.2.1
    go_wp2_with (at_builtin; refine wpList_append_own _ rfl _ _ 22 rfl u2.heap.size 48 ti (.float .f32 0) 1 4 Try.underlying22 HI.out HZ0.out HZ1_.out HZ2_.out rfl (by decide) _ _ _ rfl (hown.alloc _) ⟨v4.heap.size, 0, none⟩ 1 1 [.float .f32 z] rfl rfl (one_news _ _) (one_cells _) (by unfold maxLen; omega) (by omega) (by have := HO.out.2.2.size; simp; omega) ?_; intro v' w9 hown' hgrow _)
    refine NoPanic.normal ?_
    have LT := HO.out.2.1.lt
    have O4 := (O3.later w5).grown hgrow VN
    have X4 := (X.later w5).grown hgrow VX
    have y0 := (z0.later w5).grown hgrow (fun x hx => by cases hx; exact v0n)
    have y1 := (z1.later w5).grown hgrow (fun x hx => by cases hx; exact v1n)
    have y2 := (z2.later w5).grown hgrow (fun x hx => by cases hx; exact v2n)
    have HB5 := HB.out.trans (Below.mono w5 HB.out.size)
    have hus := HSU.out
    have HB9 := Lib.hid (HB5.grown hgrow HB5.size (fun k hk => Nat.le_trans hus (LT k hk).1))
    have HO9 := Lib.hid (outs_next HO.out hown' hgrow)
    have hzl : zs.length = N - r := HO.out.1
    have ZB : Hid (∀ x ∈ zs ++ [z], x < 2 ^ 32) := Lib.hid (by
      intro x hx
      rcases List.mem_append.1 hx with h | h
      · exact HZ1.out x h
      · simp at h; subst h; exact HEB.out)
    have ZC : Hid (∀ j, j < N - (r - 1) → canon .f32 ((zs ++ [z]).getD j 0) = (runT wb m k (nums xs) (nums ys) ⟨nums e, nums x, nums y⟩ (j + 1)).e q) := Lib.hid (by
      intro j hj
      by_cases hjk : j < N - r
      · have e9 : (zs ++ [z]).getD j 0 = zs.getD j 0 := by simp [List.getElem?_append, hzl, hjk]
        rw [e9]; exact HZ2.out j hjk
      · obtain rfl : j = N - r := by omega
        have e9 : (zs ++ [z]).getD (N - r) 0 = z := by simp [List.getElem?_append, hzl]
        rw [e9, HEZ.out, show N - (r - 1) = N - r + 1 by omega])
    have NE : Hid (f0 ≠ oo ∧ f1 ≠ oo ∧ f2 ≠ oo) := Lib.hid ⟨m0, m1, m2⟩
    have OSN : Hid (Outs u2 w9 v' (N - (r - 1)) (zs ++ [z])) := Lib.hid (by rw [show N - (r - 1) = N - r + 1 by omega]; exact HO9.out)
    clear O3 X z0 z1 z2 HO HO9 hown hown' hgrow OS HB HB5 VN VX v0n v1n v2n zc zc4 w4 w5 LT OSr
    go_wp2
    go_roundw
    case rel => exact ⟨_, r - 1, f0, f1, f2, d0, d1, d2, e2, x2, y2_, zs ++ [z], rfl, by omega, by (first | rw [HRI.out] | (have := HRI.out; simp [this])), by rw [HNR.out]; exact HT2.out, y0, y1, y2, NE.out, O4, X4, OSN.out, ZB.out, ZC.out, HB9.out⟩
    case measure => simp [intOf]; omega
  · skip
    obtain rfl : r = 0 := by omega
    have OS0 : Hid (Outs u2 wr lv N zs) := Lib.hid OS.out
    obtain ⟨a9, c9, rfl, how, hbw⟩ := outs_endT OS0.out
    have HU9 := HSU.out
    have hz2 := HZ2.out
    have hzl : zs.length = N := OS0.out.1
    clear O X y0 y1 y2 HT NF
    go_wp2
    go_ret2
    exact ⟨a9, c9, zs, by rw [hzl]; rfl, how.lower HU9, is_list hzl HZ1.out hz2 (by omega), HB.out⟩

end Go.Proofs.Ytedfbaeajofmnab
