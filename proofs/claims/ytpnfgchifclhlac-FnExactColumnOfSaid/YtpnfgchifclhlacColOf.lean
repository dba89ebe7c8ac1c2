/- Columns of a field: the program's and the model's. Conditions: none beyond those of each theorem. -/
import Derived.Test.YtpnfgchifclhlacBu7
import Derived.Test.YtpnfgchifclhlacBu5
import Derived.Test.YtpnfgchifclhlacLstKit
import Derived.Deep.RegionHeld3
import Derived.Deep.AppendLies
namespace Go.Proofs.Ytpnfgchifclhlac
open Go Ieee Go.RowKit
set_option linter.unusedVariables false

def colB (wd hi : Int) (wb : Bool) (xs ys e x y : List Nat) (u : Int) : Bool := fieldB wd hi wb xs ys e x y && cellB wd hi u 0
def colF (wd u : Int) (i : Nat) : Nat := (u + wd * (i : Int)).toNat

theorem cellB_col {wd hi u : Int} (h : 3 ≤ hi) : cellB wd hi u 0 = decide (0 ≤ u ∧ u ≤ wd - 1) := by
  unfold cellB; rw [show decide ((0 : Int) ≤ 0 ∧ 0 ≤ hi - 1) = true from decide_eq_true (by omega), Bool.and_true]

theorem make_f32cap (n : Nat) (hn : n ≤ 1048576) (w : World) : (Instr.makeSlice 22 (.int .i64 0) (.int .i64 (n : Int))).run Try.prog w = .ok (.slice (some ⟨w.heap.size, 0, none⟩) 0 n) (w.alloc (.cells (List.replicate n (Value.float .f32 0)).toArray 52)) := by
  obtain ⟨i0, hi, hz0, hz1, hz2⟩ := info_parts Try.infoF32
  have := run_make (P := Try.prog) w 22 52 i0 (.float .f32 0) Try.underlying22 hi hz0 .i64 .i64 0 n (by omega) (by omega) (by rw [hz2]; omega) (by omega)
  rw [this, hz1, Nat.mul_one, Int.toNat_natCast]
  have e : madeCells (Value.float FloatKind.f32 0).cells n = (List.replicate n (Value.float .f32 0)).toArray := by
    apply Array.toList_inj.1
    rw [show (Value.float FloatKind.f32 0).cells = #[.float .f32 0] from rfl, toList_madeCells_one]
  rw [e]; rfl

theorem outs_cap (w : World) (n : Nat) (hn : n ≤ 1048576) : Outs w (w.alloc (.cells (List.replicate n (Value.float .f32 0)).toArray 52)) (.slice (some ⟨w.heap.size, 0, none⟩) 0 n) 0 [] :=
  ⟨rfl, World.ownsRow_made w _ n (Nat.le_refl _) (by unfold maxLen; omega) (by simp), (Below.refl _ _).alloc (Nat.le_refl _) _⟩

theorem grown_of_below {w w' : World} (b : Below w.heap.size w w') : w.grownBy w' none := ⟨b.os, b.tape, b.output, b.size, fun k hk _ => b.block k hk⟩

theorem outs_later {w wr w1 : World} {v : Value} {n : Nat} {zs : List Nat} (h : Outs w wr v n zs) (b : Below wr.heap.size wr w1) : Outs w w1 v n zs :=
  ⟨h.1, h.2.1.kept (grown_of_below b) (Classical.em _), h.2.2.trans (b.mono h.2.2.size)⟩

theorem keepB2c1 {u w' : World} {g0 g1 : Nat} {c0 c1 : Array Value} {t0 t1 : TypeId} {p : Addr} {v : Value} (x0 : Blk u g0 c0 t0) (x1 : Blk u g1 c1 t1) (y0 : u.cell? p = some v) (b : Below u.heap.size u w') : (∀ i, w'.cell? ⟨g0, i, none⟩ = c0[i]?) ∧ (∀ i, w'.cell? ⟨g1, i, none⟩ = c1[i]?) ∧ w'.cell? p = some v ∧ Below u.heap.size u w' :=
  ⟨(x0.below b x0.lt).open.1, (x1.below b x1.lt).open.1, cell_on y0 b, b⟩

set_option maxHeartbeats 8000000 in
set_option maxRecDepth 100000 in
theorem implColumnOfL (wd hi : Int) (wb : Bool) (a b : Option Addr) (ca cb : Nat) (xs ys : List Nat) (a0 a1 a2 : Option Addr) (c0 c1 c2 : Nat) (e x y : List Nat) (v : Int) (w : World) (ha : RowV w a (fvals xs)) (hb : RowV w b (fvals ys)) (qa : ∀ z ∈ xs, z < 2 ^ 32) (qb : ∀ z ∈ ys, z < 2 ^ 32) (hx : xs.length ≤ maxLen) (hy : ys.length ≤ maxLen) (h0 : RowV w a0 (fvals e)) (h1 : RowV w a1 (fvals x)) (h2 : RowV w a2 (fvals y)) (q0 : ∀ z ∈ e, z < 2 ^ 32) (q1 : ∀ z ∈ x, z < 2 ^ 32) (q2 : ∀ z ∈ y, z < 2 ^ 32) (m0 : e.length ≤ maxLen) (m1 : x.length ≤ maxLen) (m2 : y.length ≤ maxLen) (wv : (Lit.int .i64 v).wf = true) :
    Calls Try.prog 16 #[.agg #[.int .i64 wd, .int .i64 hi, .bool wb, .slice a xs.length ca, .slice b ys.length cb], .agg #[.slice a0 e.length c0, .slice a1 x.length c1, .slice a2 y.length c2], .int .i64 v] w (GaveL w (colB wd hi wb xs ys e x y v) (placed (colF wd v) hi.toNat e)) := by
  rcases hfv : fieldB wd hi wb xs ys e x y with _ | _
  · skip
    have HR : Hid (colB wd hi wb xs ys e x y v = false) := Lib.hid (by unfold colB; rw [hfv]; rfl)
    rw [HR.out]
    have H_fb := Lib.hid hfv; clear hfv
    have X := Blk.new w #[.int .i64 wd, .int .i64 hi, .bool wb, .slice a xs.length ca, .slice b ys.length cb] 31
    have Y := Blk.new1 w (.cells #[.int .i64 wd, .int .i64 hi, .bool wb, .slice a xs.length ca, .slice b ys.length cb] 31) #[.slice a0 e.length c0, .slice a1 x.length c1, .slice a2 y.length c2] 33
    replace X := X.alloc (.cells #[.slice a0 e.length c0, .slice a1 x.length c1, .slice a2 y.length c2] 33)
    have HB : Hid (Below w.heap.size w ((w.alloc (.cells #[.int .i64 wd, .int .i64 hi, .bool wb, .slice a xs.length ca, .slice b ys.length cb] 31)).alloc (.cells #[.slice a0 e.length c0, .slice a1 x.length c1, .slice a2 y.length c2] 33))) := Lib.hid (((Below.refl w.heap.size w).alloc (by simp <;> omega) _).alloc (by simp <;> omega) _)
    go_enter Try.func16, Try.ntmps16
    go_wp2_with fail
    generalize ((w.alloc (.cells #[.int .i64 wd, .int .i64 hi, .bool wb, .slice a xs.length ca, .slice b ys.length cb] 31)).alloc (.cells #[.slice a0 e.length c0, .slice a1 x.length c1, .slice a2 y.length c2] 33)) = u1 at *
    refine (implShapeOf _ _ _ _ _ _ _ _ _ _).mono ?_
    rintro r u2 ⟨rfl, q⟩
    replace X := X.later q
    replace Y := Y.later q
    replace HB := Lib.hid (HB.out.trans (q.mono HB.out.size))
    clear q
    have Z := Blk.new u2 #[.int .i64 wd, .int .i64 hi, .bool wb] 81
    have q := below_new u2 (.cells #[.int .i64 wd, .int .i64 hi, .bool wb] 81)
    replace X := X.later q
    replace Y := Y.later q
    replace HB := Lib.hid (HB.out.trans (q.mono HB.out.size))
    clear q
    obtain ⟨Xc, Xf⟩ := X.open
    obtain ⟨Yc, Yf⟩ := Y.open
    go_wp2_with fail
    generalize (u2.alloc (.cells #[.int .i64 wd, .int .i64 hi, .bool wb] 81)) = u3 at *
    refine (implIsField _ _ _ _ _ _ _ _ _ _ _ _ _ _ _ _ _ _ _ (ha.later HB.out) (hb.later HB.out) hx hy (h0.later HB.out) (h1.later HB.out) (h2.later HB.out) m0 m1 m2).mono ?_
    rintro r u4 ⟨rfl, q⟩
    clear Xc Xf
    clear Yc Yf
    replace X := X.later q
    replace Y := Y.later q
    replace Z := Z.later q
    replace HB := Lib.hid (HB.out.trans (q.mono HB.out.size))
    clear q
    rw [H_fb.out]
    go_wp2
    go_ret2
    exact ⟨none, 0, [], rfl, GotList.none HB.out⟩
  obtain ⟨p1, _, l0, l1, l2⟩ := field_parts hfv
  obtain ⟨s1, s2, s3, s4, t1, t2⟩ := sides_mul (valid_sides p1)
  have HRC := cellB_col (wd := wd) (hi := hi) (u := v) s3
  rcases hcv : cellB wd hi v 0 with _ | _
  · skip
    have HR : Hid (colB wd hi wb xs ys e x y v = false) := Lib.hid (by unfold colB; rw [hfv, hcv]; rfl)
    rw [HR.out]
    have H_d := Lib.hid (HRC.symm.trans hcv); have H_fb := Lib.hid hfv; have H_c := Lib.hid hcv; clear hfv hcv l0 l1 l2 p1 HRC
    have X := Blk.new w #[.int .i64 wd, .int .i64 hi, .bool wb, .slice a xs.length ca, .slice b ys.length cb] 31
    have Y := Blk.new1 w (.cells #[.int .i64 wd, .int .i64 hi, .bool wb, .slice a xs.length ca, .slice b ys.length cb] 31) #[.slice a0 e.length c0, .slice a1 x.length c1, .slice a2 y.length c2] 33
    replace X := X.alloc (.cells #[.slice a0 e.length c0, .slice a1 x.length c1, .slice a2 y.length c2] 33)
    have HB : Hid (Below w.heap.size w ((w.alloc (.cells #[.int .i64 wd, .int .i64 hi, .bool wb, .slice a xs.length ca, .slice b ys.length cb] 31)).alloc (.cells #[.slice a0 e.length c0, .slice a1 x.length c1, .slice a2 y.length c2] 33))) := Lib.hid (((Below.refl w.heap.size w).alloc (by simp <;> omega) _).alloc (by simp <;> omega) _)
    go_enter Try.func16, Try.ntmps16
    go_wp2_with fail
    generalize ((w.alloc (.cells #[.int .i64 wd, .int .i64 hi, .bool wb, .slice a xs.length ca, .slice b ys.length cb] 31)).alloc (.cells #[.slice a0 e.length c0, .slice a1 x.length c1, .slice a2 y.length c2] 33)) = u1 at *
    refine (implShapeOf _ _ _ _ _ _ _ _ _ _).mono ?_
    rintro r u2 ⟨rfl, q⟩
    replace X := X.later q
    replace Y := Y.later q
    replace HB := Lib.hid (HB.out.trans (q.mono HB.out.size))
    clear q
    have Z := Blk.new u2 #[.int .i64 wd, .int .i64 hi, .bool wb] 81
    have q := below_new u2 (.cells #[.int .i64 wd, .int .i64 hi, .bool wb] 81)
    replace X := X.later q
    replace Y := Y.later q
    replace HB := Lib.hid (HB.out.trans (q.mono HB.out.size))
    clear q
    obtain ⟨Xc, Xf⟩ := X.open
    obtain ⟨Yc, Yf⟩ := Y.open
    go_wp2_with fail
    generalize (u2.alloc (.cells #[.int .i64 wd, .int .i64 hi, .bool wb] 81)) = u3 at *
    refine (implIsField _ _ _ _ _ _ _ _ _ _ _ _ _ _ _ _ _ _ _ (ha.later HB.out) (hb.later HB.out) hx hy (h0.later HB.out) (h1.later HB.out) (h2.later HB.out) m0 m1 m2).mono ?_
    rintro r u4 ⟨rfl, q⟩
    clear Xc Xf
    clear Yc Yf
    replace X := X.later q
    replace Y := Y.later q
    replace Z := Z.later q
    replace HB := Lib.hid (HB.out.trans (q.mono HB.out.size))
    clear q
    rw [H_fb.out]
    obtain ⟨Zc, Zf⟩ := Z.open
    go_wp2_with fail
    refine (implHas _ _ _ _ _ _ s1 s2 s3 s4).mono ?_
    rintro r u5 ⟨rfl, q⟩
    clear Zc Zf
    replace X := X.later q
    replace Y := Y.later q
    replace Z := Z.later q
    replace HB := Lib.hid (HB.out.trans (q.mono HB.out.size))
    clear q
    rw [H_c.out]
    obtain ⟨Zc, Zf⟩ := Z.open
    obtain ⟨Yc, Yf⟩ := Y.open
    go_wp2
    go_ret2
    exact ⟨none, 0, [], rfl, GotList.none HB.out⟩
  have HR : Hid (colB wd hi wb xs ys e x y v = true) := Lib.hid (by unfold colB; rw [hfv, hcv]; rfl)
  rw [HR.out]
  obtain ⟨j1, j2, j3, j4⟩ := cell_in hcv
  obtain ⟨m, hm⟩ := Int.eq_ofNat_of_zero_le (show 0 ≤ hi by omega)
  have HF : Hid (∀ k : Nat, k < m → (colF wd v k : Int) = v + wd * (k : Int) ∧ colF wd v k < e.length ∧ 0 ≤ wd * (k : Int) ∧ wd * (k : Int) ≤ 256) := Lib.hid (fun k hk => by
    have hkk : (k : Int) < hi := by omega
    have a1 := Int.mul_nonneg (show 0 ≤ wd by omega) (Int.natCast_nonneg k)
    have a2 := Int.mul_le_mul_of_nonneg_left (show (k : Int) + 1 ≤ hi by omega) (show 0 ≤ wd by omega)
    rw [Int.mul_add, Int.mul_one] at a2
    unfold colF
    refine ⟨Int.toNat_of_nonneg (by omega), by omega, a1, by omega⟩)
  have hm3 : 3 ≤ m := by omega
  have hm16 : m ≤ 16 := by omega
  have HM := Lib.hid hm
  have HZ : Hid (hi.toNat = m) := Lib.hid (by rw [hm]; rfl)
  rw [HZ.out]
  have H_d := Lib.hid (HRC.symm.trans hcv); have H_fb := Lib.hid hfv; have H_c := Lib.hid hcv; clear hfv hcv l0 l1 l2 p1 HRC hm t1 t2
  have H_l : Hid (0 < e.length) := Lib.hid (by have := (HF.out 0 (by omega)).2.1; omega)
  have X := Blk.new w #[.int .i64 wd, .int .i64 hi, .bool wb, .slice a xs.length ca, .slice b ys.length cb] 31
  have Y := Blk.new1 w (.cells #[.int .i64 wd, .int .i64 hi, .bool wb, .slice a xs.length ca, .slice b ys.length cb] 31) #[.slice a0 e.length c0, .slice a1 x.length c1, .slice a2 y.length c2] 33
  replace X := X.alloc (.cells #[.slice a0 e.length c0, .slice a1 x.length c1, .slice a2 y.length c2] 33)
  have HB : Hid (Below w.heap.size w ((w.alloc (.cells #[.int .i64 wd, .int .i64 hi, .bool wb, .slice a xs.length ca, .slice b ys.length cb] 31)).alloc (.cells #[.slice a0 e.length c0, .slice a1 x.length c1, .slice a2 y.length c2] 33))) := Lib.hid (((Below.refl w.heap.size w).alloc (by simp <;> omega) _).alloc (by simp <;> omega) _)
  go_enter Try.func16, Try.ntmps16
  go_wp2_with fail
  generalize ((w.alloc (.cells #[.int .i64 wd, .int .i64 hi, .bool wb, .slice a xs.length ca, .slice b ys.length cb] 31)).alloc (.cells #[.slice a0 e.length c0, .slice a1 x.length c1, .slice a2 y.length c2] 33)) = u1 at *
  refine (implShapeOf _ _ _ _ _ _ _ _ _ _).mono ?_
  rintro r u2 ⟨rfl, q⟩
  replace X := X.later q
  replace Y := Y.later q
  replace HB := Lib.hid (HB.out.trans (q.mono HB.out.size))
  clear q
  have Z := Blk.new u2 #[.int .i64 wd, .int .i64 hi, .bool wb] 81
  have q := below_new u2 (.cells #[.int .i64 wd, .int .i64 hi, .bool wb] 81)
  replace X := X.later q
  replace Y := Y.later q
  replace HB := Lib.hid (HB.out.trans (q.mono HB.out.size))
  clear q
  obtain ⟨Xc, Xf⟩ := X.open
  obtain ⟨Yc, Yf⟩ := Y.open
  go_wp2_with fail
  generalize (u2.alloc (.cells #[.int .i64 wd, .int .i64 hi, .bool wb] 81)) = u3 at *
  refine (implIsField _ _ _ _ _ _ _ _ _ _ _ _ _ _ _ _ _ _ _ (ha.later HB.out) (hb.later HB.out) hx hy (h0.later HB.out) (h1.later HB.out) (h2.later HB.out) m0 m1 m2).mono ?_
  rintro r u4 ⟨rfl, q⟩
  clear Xc Xf
  clear Yc Yf
  replace X := X.later q
  replace Y := Y.later q
  replace Z := Z.later q
  replace HB := Lib.hid (HB.out.trans (q.mono HB.out.size))
  clear q
  rw [H_fb.out]
  obtain ⟨Zc, Zf⟩ := Z.open
  go_wp2_with fail
  refine (implHas _ _ _ _ _ _ s1 s2 s3 s4).mono ?_
  rintro r u5 ⟨rfl, q⟩
  clear Zc Zf
  replace X := X.later q
  replace Y := Y.later q
  replace Z := Z.later q
  replace HB := Lib.hid (HB.out.trans (q.mono HB.out.size))
  clear q
  rw [H_c.out]
  obtain ⟨Zc, Zf⟩ := Z.open
  obtain ⟨Yc, Yf⟩ := Y.open
  have HS0 := HB.out.size
  have hmk := make_f32cap m (by omega)
  have hm := HM.out
  have OS := Lib.hid (outs_cap u5 m (by omega))
  have zZ := Z.lt; have zY := Y.lt
  have Z1 := Z.alloc (.cells (List.replicate m (Value.float .f32 0)).toArray 52); obtain ⟨z1c, z1f⟩ := Z1.open
  go_wp2
  clear z1c z1f Z1 hmk
  go_loopw [29, 9] (fun iv vv wr => ∃ k : Nat, k ≤ m ∧ iv = .int .i64 k ∧ Outs u5 wr vv k (placed (colF wd v) k e)) (fun iv _ _ => m - (intOf iv).toNat)
  case atStart => exact ⟨0, Nat.zero_le _, rfl, OS.out⟩
  case round =>
    obtain ⟨k, hk, rfl, hout⟩ := hrel
    have HO := Lib.hid hout; clear hout OS
    have HBW := Lib.hid (HB.out.trans (HO.out.2.2.mono HB.out.size))
    have X1 := X.later HO.out.2.2; have Y1 := Y.later HO.out.2.2
    obtain ⟨x1c, x1f⟩ := X1.open; obtain ⟨y1c, y1f⟩ := Y1.open
    by_cases hlt : k < m
    · skip
      obtain ⟨hq, hql, hw0, hw1⟩ := HF.out k hlt
      have HL : Hid (placed (colF wd v) (k + 1) e = placed (colF wd v) k e ++ [e.getD (colF wd v k) 0]) := Lib.hid (placed_succ _ _ _)
      generalize hfk : colF wd v k = q at *
      clear hfk
      obtain ⟨b0, o0, rfl, hcu⟩ := (h0.later HB.out) q _ (fvals_get hql)
      have HG := Lib.hid (getD_get hql)
      generalize e[q] = z at *
      have hc := cell_on hcu HO.out.2.2
      have qn : (q : Int) < (e.length : Int) := by omega
      have hkm : (k : Int) < (m : Int) := by omega
      obtain ⟨ti, hi0, hz0, hz1, hz2⟩ := info_parts Try.infoF32
      have HI := Lib.hid hi0; have HZ0 := Lib.hid hz0; have HZ1 := Lib.hid hz1; have HZ2 := Lib.hid hz2; clear hi0 hz0 hz1 hz2
      have hown := HO.out.2.1
      have HQ : Hid (v + wd * (k : Int) = (q : Int)) := Lib.hid hq.symm; clear hq
      go_upto_region 8 with (fail)
      go_region_held3 (fun w' => (∀ i, w'.cell? ⟨w.heap.size + 1, i, none⟩ = (#[.slice (some ⟨b0, o0, none⟩) e.length c0, .slice a1 x.length c1, .slice a2 y.length c2] : Array Value)[i]?) ∧ (∀ i, w'.cell? ⟨u2.heap.size, i, none⟩ = (#[.int .i64 wd, .int .i64 hi, .bool wb] : Array Value)[i]?) ∧ w'.cell? ⟨b0, o0 + q, none⟩ = some (.float .f32 z) ∧ Below u5.heap.size u5 w') (first | exact keepB2c1 Y Z hcu (HO.out.2.2.drew) | exact keepB2c1 Y Z hcu (below_next (HO.out.2.2.drew) qa0) | exact keepB2c1 Y Z hcu (below_next (below_next (HO.out.2.2.drew) qa0) (below_new _ _)) | exact keepB2c1 Y Z hcu (Below.grown (below_next (below_next (HO.out.2.2.drew) qa0) (below_new _ _)) hgrow (by have := HO.out.2.2.size; simp; omega) (fun k hk => (hown.lt k hk).1)))
        (first
          | (go_at_call 70; (with_reducible refine (implIndexQ0 _ _ _ _ _ q _ HQ hw0 hw1 (by omega) (by omega)).mono ?_); rintro r v1 ⟨rfl, qa0⟩; have zz1 : wr.heap.size ≤ v1.heap.size := qa0.size)
          | (refine step_append_lies _ (by rfl) _ _ _ (by rfl) u5.heap.size 52 ti (.float .f32 0) 1 4 Try.underlying22 HI.out HZ0.out HZ1.out HZ2.out rfl (by decide) _ _ _ (by rfl) ((outs_later HO.out (below_next (below_drew _) qa0)).2.1.alloc _) ⟨v1.heap.size, 0, none⟩ 1 1 [.float .f32 z] (by rfl) (by rfl) (one_news _ _) (one_cells _) (by decide) (by unfold maxLen; omega) (by omega) (by have := HO.out.2.2.size; simp; omega) (v1.heap.size + 1) (by simp) ?_; intro gg cap w9 hown' hgrow _ _))
      have HO2 := Lib.hid (outs_next (outs_later HO.out (below_next (below_drew _) qa0)) hown' hgrow); clear hown hown' hgrow
      go_wp2
      go_roundw
      case rel => exact ⟨k + 1, by omega, by go_num, by rw [HL.out, HG.out]; exact HO2.out⟩
      case measure => simp [intOf]; omega
    · skip
      obtain rfl : k = m := by omega
      obtain ⟨a9, c9, rfl, hown, hb9⟩ := outs_end HO.out (by omega)
      go_wp2
      go_ret2
      exact ⟨a9, c9, placed (colF wd v) k e, by rw [placed_length]; rfl, ⟨hown.lower HS0, is_placed q0 (by omega), HBW.out⟩⟩

set_option maxHeartbeats 8000000 in
set_option maxRecDepth 100000 in
theorem specColumnOfL (wd hi : Int) (wb : Bool) (a b : Option Addr) (ca cb : Nat) (xs ys : List Nat) (a0 a1 a2 : Option Addr) (c0 c1 c2 : Nat) (e x y : List Nat) (v : Int) (w : World) (ha : RowV w a (fvals xs)) (hb : RowV w b (fvals ys)) (qa : ∀ z ∈ xs, z < 2 ^ 32) (qb : ∀ z ∈ ys, z < 2 ^ 32) (hx : xs.length ≤ maxLen) (hy : ys.length ≤ maxLen) (h0 : RowV w a0 (fvals e)) (h1 : RowV w a1 (fvals x)) (h2 : RowV w a2 (fvals y)) (q0 : ∀ z ∈ e, z < 2 ^ 32) (q1 : ∀ z ∈ x, z < 2 ^ 32) (q2 : ∀ z ∈ y, z < 2 ^ 32) (m0 : e.length ≤ maxLen) (m1 : x.length ≤ maxLen) (m2 : y.length ≤ maxLen) (wv : (Lit.int .i64 v).wf = true) :
    Calls Try.prog 13 #[.agg #[.int .i64 wd, .int .i64 hi, .bool wb, .slice a xs.length ca, .slice b ys.length cb], .agg #[.slice a0 e.length c0, .slice a1 x.length c1, .slice a2 y.length c2], .int .i64 v] w (GaveL w (colB wd hi wb xs ys e x y v) (placed (colF wd v) hi.toNat e)) := by
  rcases hfv : fieldB wd hi wb xs ys e x y with _ | _
  · skip
    have HR : Hid (colB wd hi wb xs ys e x y v = false) := Lib.hid (by unfold colB; rw [hfv]; rfl)
    rw [HR.out]
    have H_fb := Lib.hid hfv; clear hfv
    have X := Blk.new w #[.int .i64 wd, .int .i64 hi, .bool wb, .slice a xs.length ca, .slice b ys.length cb] 31
    have Y := Blk.new1 w (.cells #[.int .i64 wd, .int .i64 hi, .bool wb, .slice a xs.length ca, .slice b ys.length cb] 31) #[.slice a0 e.length c0, .slice a1 x.length c1, .slice a2 y.length c2] 33
    replace X := X.alloc (.cells #[.slice a0 e.length c0, .slice a1 x.length c1, .slice a2 y.length c2] 33)
    have HB : Hid (Below w.heap.size w ((w.alloc (.cells #[.int .i64 wd, .int .i64 hi, .bool wb, .slice a xs.length ca, .slice b ys.length cb] 31)).alloc (.cells #[.slice a0 e.length c0, .slice a1 x.length c1, .slice a2 y.length c2] 33))) := Lib.hid (((Below.refl w.heap.size w).alloc (by simp <;> omega) _).alloc (by simp <;> omega) _)
    go_enter Try.func13, Try.ntmps13
    go_wp2_with fail
    generalize ((w.alloc (.cells #[.int .i64 wd, .int .i64 hi, .bool wb, .slice a xs.length ca, .slice b ys.length cb] 31)).alloc (.cells #[.slice a0 e.length c0, .slice a1 x.length c1, .slice a2 y.length c2] 33)) = u1 at *
    refine (specBoth _ _ _ _ _ _ _ _ _ _ _ _ _ _ _ _ _ _ _ _ _ X Y (ha.later HB.out) (hb.later HB.out) hx hy (h0.later HB.out) (h1.later HB.out) (h2.later HB.out) m0 m1 m2).mono ?_
    rintro r u2 ⟨rfl, nq, hw⟩
    have q : Below u1.heap.size u1 u2 := by rw [hw]; exact below_drewN (Below.refl _ _) _
    clear hw
    replace X := X.later q
    replace Y := Y.later q
    replace HB := Lib.hid (HB.out.trans (q.mono HB.out.size))
    clear q
    rw [H_fb.out]
    go_wp2
    go_ret2
    exact ⟨none, 0, [], rfl, GotList.none HB.out⟩
  obtain ⟨p1, _, l0, l1, l2⟩ := field_parts hfv
  obtain ⟨s1, s2, s3, s4, t1, t2⟩ := sides_mul (valid_sides p1)
  have HRC := cellB_col (wd := wd) (hi := hi) (u := v) s3
  rcases hcv : cellB wd hi v 0 with _ | _
  · skip
    have HR : Hid (colB wd hi wb xs ys e x y v = false) := Lib.hid (by unfold colB; rw [hfv, hcv]; rfl)
    rw [HR.out]
    have H_d := Lib.hid (HRC.symm.trans hcv); have H_fb := Lib.hid hfv; have H_c := Lib.hid hcv; clear hfv hcv l0 l1 l2 p1 HRC
    have X := Blk.new w #[.int .i64 wd, .int .i64 hi, .bool wb, .slice a xs.length ca, .slice b ys.length cb] 31
    have Y := Blk.new1 w (.cells #[.int .i64 wd, .int .i64 hi, .bool wb, .slice a xs.length ca, .slice b ys.length cb] 31) #[.slice a0 e.length c0, .slice a1 x.length c1, .slice a2 y.length c2] 33
    replace X := X.alloc (.cells #[.slice a0 e.length c0, .slice a1 x.length c1, .slice a2 y.length c2] 33)
    have HB : Hid (Below w.heap.size w ((w.alloc (.cells #[.int .i64 wd, .int .i64 hi, .bool wb, .slice a xs.length ca, .slice b ys.length cb] 31)).alloc (.cells #[.slice a0 e.length c0, .slice a1 x.length c1, .slice a2 y.length c2] 33))) := Lib.hid (((Below.refl w.heap.size w).alloc (by simp <;> omega) _).alloc (by simp <;> omega) _)
    go_enter Try.func13, Try.ntmps13
    go_wp2_with fail
    generalize ((w.alloc (.cells #[.int .i64 wd, .int .i64 hi, .bool wb, .slice a xs.length ca, .slice b ys.length cb] 31)).alloc (.cells #[.slice a0 e.length c0, .slice a1 x.length c1, .slice a2 y.length c2] 33)) = u1 at *
    refine (specBoth _ _ _ _ _ _ _ _ _ _ _ _ _ _ _ _ _ _ _ _ _ X Y (ha.later HB.out) (hb.later HB.out) hx hy (h0.later HB.out) (h1.later HB.out) (h2.later HB.out) m0 m1 m2).mono ?_
    rintro r u2 ⟨rfl, nq, hw⟩
    have q : Below u1.heap.size u1 u2 := by rw [hw]; exact below_drewN (Below.refl _ _) _
    clear hw
    replace X := X.later q
    replace Y := Y.later q
    replace HB := Lib.hid (HB.out.trans (q.mono HB.out.size))
    clear q
    rw [H_fb.out]
    obtain ⟨Xc, Xf⟩ := X.open
    obtain ⟨Yc, Yf⟩ := Y.open
    go_wp2_with fail
    refine (l00In_any _ _ _ _).mono ?_
    rintro r _ ⟨rfl, rfl⟩
    rw [show decide (0 ≤ v ∧ v ≤ wd - 1) = false from H_d.out]
    go_wp2
    go_ret2
    exact ⟨none, 0, [], rfl, GotList.none HB.out⟩
  have HR : Hid (colB wd hi wb xs ys e x y v = true) := Lib.hid (by unfold colB; rw [hfv, hcv]; rfl)
  rw [HR.out]
  obtain ⟨j1, j2, j3, j4⟩ := cell_in hcv
  obtain ⟨m, hm⟩ := Int.eq_ofNat_of_zero_le (show 0 ≤ hi by omega)
  have HF : Hid (∀ k : Nat, k < m → (colF wd v k : Int) = v + wd * (k : Int) ∧ colF wd v k < e.length ∧ 0 ≤ wd * (k : Int) ∧ wd * (k : Int) ≤ 256) := Lib.hid (fun k hk => by
    have hkk : (k : Int) < hi := by omega
    have a1 := Int.mul_nonneg (show 0 ≤ wd by omega) (Int.natCast_nonneg k)
    have a2 := Int.mul_le_mul_of_nonneg_left (show (k : Int) + 1 ≤ hi by omega) (show 0 ≤ wd by omega)
    rw [Int.mul_add, Int.mul_one] at a2
    unfold colF
    refine ⟨Int.toNat_of_nonneg (by omega), by omega, a1, by omega⟩)
  have hm3 : 3 ≤ m := by omega
  have hm16 : m ≤ 16 := by omega
  have HM := Lib.hid hm
  have HZ : Hid (hi.toNat = m) := Lib.hid (by rw [hm]; rfl)
  rw [HZ.out]
  have H_d := Lib.hid (HRC.symm.trans hcv); have H_fb := Lib.hid hfv; have H_c := Lib.hid hcv; clear hfv hcv l0 l1 l2 p1 HRC hm t1 t2
  have H_l : Hid (0 < e.length) := Lib.hid (by have := (HF.out 0 (by omega)).2.1; omega)
  have X := Blk.new w #[.int .i64 wd, .int .i64 hi, .bool wb, .slice a xs.length ca, .slice b ys.length cb] 31
  have Y := Blk.new1 w (.cells #[.int .i64 wd, .int .i64 hi, .bool wb, .slice a xs.length ca, .slice b ys.length cb] 31) #[.slice a0 e.length c0, .slice a1 x.length c1, .slice a2 y.length c2] 33
  replace X := X.alloc (.cells #[.slice a0 e.length c0, .slice a1 x.length c1, .slice a2 y.length c2] 33)
  have HB : Hid (Below w.heap.size w ((w.alloc (.cells #[.int .i64 wd, .int .i64 hi, .bool wb, .slice a xs.length ca, .slice b ys.length cb] 31)).alloc (.cells #[.slice a0 e.length c0, .slice a1 x.length c1, .slice a2 y.length c2] 33))) := Lib.hid (((Below.refl w.heap.size w).alloc (by simp <;> omega) _).alloc (by simp <;> omega) _)
  go_enter Try.func13, Try.ntmps13
  go_wp2_with fail
  generalize ((w.alloc (.cells #[.int .i64 wd, .int .i64 hi, .bool wb, .slice a xs.length ca, .slice b ys.length cb] 31)).alloc (.cells #[.slice a0 e.length c0, .slice a1 x.length c1, .slice a2 y.length c2] 33)) = u1 at *
  refine (specBoth _ _ _ _ _ _ _ _ _ _ _ _ _ _ _ _ _ _ _ _ _ X Y (ha.later HB.out) (hb.later HB.out) hx hy (h0.later HB.out) (h1.later HB.out) (h2.later HB.out) m0 m1 m2).mono ?_
  rintro r u2 ⟨rfl, nq, hw⟩
  have q : Below u1.heap.size u1 u2 := by rw [hw]; exact below_drewN (Below.refl _ _) _
  clear hw
  replace X := X.later q
  replace Y := Y.later q
  replace HB := Lib.hid (HB.out.trans (q.mono HB.out.size))
  clear q
  rw [H_fb.out]
  obtain ⟨Xc, Xf⟩ := X.open
  obtain ⟨Yc, Yf⟩ := Y.open
  go_wp2_with fail
  refine (l00In_any _ _ _ _).mono ?_
  rintro r _ ⟨rfl, rfl⟩
  rw [show decide (0 ≤ v ∧ v ≤ wd - 1) = true from H_d.out]
  have HS0 := HB.out.size
  have hm := HM.out
  have OS := Lib.hid (outs_start u2)
  go_wp2
  go_loopw [9, 8] (fun iv vv wr => ∃ k : Nat, k ≤ m ∧ iv = .int .i64 k ∧ Outs u2 wr vv k (placed (colF wd v) k e)) (fun iv _ _ => m - (intOf iv).toNat)
  case atStart => exact ⟨0, Nat.zero_le _, rfl, OS.out⟩
  case round =>
    obtain ⟨k, hk, rfl, hout⟩ := hrel
    have HO := Lib.hid hout; clear hout OS
    have HBW := Lib.hid (HB.out.trans (HO.out.2.2.mono HB.out.size))
    have X1 := X.later HO.out.2.2; have Y1 := Y.later HO.out.2.2
    obtain ⟨x1c, x1f⟩ := X1.open; obtain ⟨y1c, y1f⟩ := Y1.open
    by_cases hlt : k < m
    · skip
      obtain ⟨hq, hql, hw0, hw1⟩ := HF.out k hlt
      have HL : Hid (placed (colF wd v) (k + 1) e = placed (colF wd v) k e ++ [e.getD (colF wd v k) 0]) := Lib.hid (placed_succ _ _ _)
      generalize hfk : colF wd v k = q at *
      clear hfk
      obtain ⟨b0, o0, rfl, hcu⟩ := (h0.later HB.out) q _ (fvals_get hql)
      have HG := Lib.hid (getD_get hql)
      generalize e[q] = z at *
      have hc := cell_on hcu HO.out.2.2
      have qn : (q : Int) < (e.length : Int) := by omega
      have hkm : (k : Int) < (m : Int) := by omega
      obtain ⟨ti, hi0, hz0, hz1, hz2⟩ := info_parts Try.infoF32
      have HI := Lib.hid hi0; have HZ0 := Lib.hid hz0; have HZ1 := Lib.hid hz1; have HZ2 := Lib.hid hz2; clear hi0 hz0 hz1 hz2
      have hown := HO.out.2.1
      have hq2 := hq.symm; clear hq
      go_wp2_with (at_builtin; refine wpList_append_own _ rfl _ _ 22 rfl u2.heap.size 52 ti (.float .f32 0) 1 4 Try.underlying22 HI.out HZ0.out HZ1.out HZ2.out rfl (by decide) _ _ _ rfl (hown.alloc _) ⟨wr.heap.size, 0, none⟩ 1 1 [.float .f32 z] rfl rfl (one_news _ _) (one_cells _) (by unfold maxLen; omega) (by omega) (by have := HO.out.2.2.size; simp; omega) ?_; intro v' w9 hown' hgrow _)
      have HO2 := Lib.hid (outs_next HO.out hown' hgrow); clear hown hown' hgrow
      go_wp2
      go_roundw
      case rel => exact ⟨k + 1, by omega, by go_num, by rw [HL.out, HG.out]; exact HO2.out⟩
      case measure => simp [intOf]; omega
    · skip
      obtain rfl : k = m := by omega
      obtain ⟨a9, c9, rfl, hown, hb9⟩ := outs_end HO.out (by omega)
      go_wp2
      go_ret2
      exact ⟨a9, c9, placed (colF wd v) k e, by rw [placed_length]; rfl, ⟨hown.lower HS0, is_placed q0 (by omega), HBW.out⟩⟩

end Go.Proofs.Ytpnfgchifclhlac
