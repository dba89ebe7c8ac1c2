/- Several texts in one: facts on floats, lists, memory and the functions that the theorems beside this text use. Conditions: none beyond those of each theorem. -/
import Derived.Test.YtkcododhfliobaaBu7
import Derived.Test.YtkcododhfliobaaBu5
import Derived.Deep.RegionHeld3
import Derived.Deep.AppendLies
import Derived.Test.YtkcododhfliobaaBu11
import Derived.Test.YtkcododhfliobaaBu2

set_option linter.unusedVariables false

section

namespace Go.Proofs.Ytkcododhfliobaa
open Go Ieee Go.RowKit
set_option linter.unusedVariables false

structure GotList (B : Nat) (w w' : World) (m : List (Option Nat)) (a : Option Addr) (y : List Nat) : Prop where
  o : OwnV w' B a (fvals y)
  s : Is y m
  below : Below B w w'

theorem GotList.none {B : Nat} {w w' : World} (b : Below B w w') : GotList B w w' [] none [] := ⟨nil_own _ _, Is.nil, b⟩

def GaveL (w : World) (b : Bool) (z : List Nat) (r : Ending) (w' : World) : Prop :=
  ∃ (a : Option Addr) (c : Nat) (y : List Nat), r = .returned (.tuple #[.slice a y.length c, .bool b]) ∧ GotList w.heap.size w w' (ifL b z) a y

theorem implIndexQ0 (wd hi x y : Int) (wb : Bool) (q : Nat) (w : World) (hq : Hid (x + wd * y = (q : Int))) (k1 : 0 ≤ wd * y) (k2 : wd * y ≤ 256) (k3 : 0 ≤ x) (k4 : x ≤ 256) : Calls Try.prog 86 #[.agg #[.int .i64 wd, .int .i64 hi, .bool wb], .agg #[.int .i64 x, .int .i64 y]] w fun e w' => e = .returned (.int .i64 (q : Int)) ∧ Below w.heap.size w w' :=
  (implIndexOf wd hi x y wb w k1 k2 k3 k4).mono fun e w' ⟨h, b⟩ => ⟨by rw [h, hq.out], b⟩

end Go.Proofs.Ytkcododhfliobaa

end

section

namespace Go.Proofs.Ytkcododhfliobaa
open Go Ieee Go.RowKit
set_option linter.unusedVariables false

def colB (wd hi : Int) (wb : Bool) (xs ys e x y : List Nat) (u : Int) : Bool := fieldB wd hi wb xs ys e x y && cellB wd hi u 0
def colF (wd u : Int) (i : Nat) : Nat := (u + wd * (i : Int)).toNat

theorem cellB_col {wd hi u : Int} (h : 3 ≤ hi) : cellB wd hi u 0 = decide (0 ≤ u ∧ u ≤ wd - 1) := by
  unfold cellB; rw [show decide ((0 : Int) ≤ 0 ∧ 0 ≤ hi - 1) = true from decide_eq_true (by omega), Bool.and_true]

theorem make_f32cap (n : Nat) (hn : n ≤ 1048576) (w : World) : (Instr.makeSlice 34 (.int .i64 0) (.int .i64 (n : Int))).run Try.prog w = .ok (.slice (some ⟨w.heap.size, 0, none⟩) 0 n) (w.alloc (.cells (List.replicate n (Value.float .f32 0)).toArray 22)) := by
  obtain ⟨i0, hi, hz0, hz1, hz2⟩ := info_parts Try.infoF32
  have := run_make (P := Try.prog) w 34 22 i0 (.float .f32 0) Try.underlying34 hi hz0 .i64 .i64 0 n (by omega) (by omega) (by rw [hz2]; omega) (by omega)
  rw [this, hz1, Nat.mul_one, Int.toNat_natCast]
  have e : madeCells (Value.float FloatKind.f32 0).cells n = (List.replicate n (Value.float .f32 0)).toArray := by
    apply Array.toList_inj.1
    rw [show (Value.float FloatKind.f32 0).cells = #[.float .f32 0] from rfl, toList_madeCells_one]
  rw [e]; rfl

theorem outs_cap (w : World) (n : Nat) (hn : n ≤ 1048576) : Outs w (w.alloc (.cells (List.replicate n (Value.float .f32 0)).toArray 22)) (.slice (some ⟨w.heap.size, 0, none⟩) 0 n) 0 [] :=
  ⟨rfl, World.ownsRow_made w _ n (Nat.le_refl _) (by unfold maxLen; omega) (by simp), (Below.refl _ _).alloc (Nat.le_refl _) _⟩

theorem grown_of_below {w w' : World} (b : Below w.heap.size w w') : w.grownBy w' none := ⟨b.os, b.tape, b.output, b.size, fun k hk _ => b.block k hk⟩

theorem outs_later {w wr w1 : World} {v : Value} {n : Nat} {zs : List Nat} (h : Outs w wr v n zs) (b : Below wr.heap.size wr w1) : Outs w w1 v n zs :=
  ⟨h.1, h.2.1.kept (grown_of_below b) (Classical.em _), h.2.2.trans (b.mono h.2.2.size)⟩

theorem keepB2c1 {u w' : World} {g0 g1 : Nat} {c0 c1 : Array Value} {t0 t1 : TypeId} {p : Addr} {v : Value} (x0 : Blk u g0 c0 t0) (x1 : Blk u g1 c1 t1) (y0 : u.cell? p = some v) (b : Below u.heap.size u w') : (∀ i, w'.cell? ⟨g0, i, none⟩ = c0[i]?) ∧ (∀ i, w'.cell? ⟨g1, i, none⟩ = c1[i]?) ∧ w'.cell? p = some v ∧ Below u.heap.size u w' :=
  ⟨(x0.below b x0.lt).open.1, (x1.below b x1.lt).open.1, cell_on y0 b, b⟩

end Go.Proofs.Ytkcododhfliobaa

end

section

namespace Go.Proofs.Ytkcododhfliobaa
open Go Ieee Go.RowKit
set_option linter.unusedVariables false

def readB (wd hi : Int) (wb : Bool) (xs ys e x y : List Nat) (ps : List (Int × Int)) : Bool := fieldB wd hi wb xs ys e x y && probesB wd hi ps
def readF (wd : Int) (ps : List (Int × Int)) (i : Nat) : Nat := ((ps.getD i (0, 0)).1 + wd * (ps.getD i (0, 0)).2).toNat

theorem probes_parts {wd hi : Int} {ps : List (Int × Int)} (h : probesB wd hi ps = true) : ps.length ≤ 8 ∧ ∀ k (hk : k < ps.length), cellB wd hi ps[k].1 ps[k].2 = true := by
  unfold probesB at h
  rw [Bool.and_eq_true, decide_eq_true_eq, List.all_eq_true] at h
  exact ⟨h.1, fun k hk => h.2 _ (List.getElem_mem hk)⟩

theorem readF_in {wd hi : Int} {ps : List (Int × Int)} {n : Nat} (h : probesB wd hi ps = true) (t2 : wd * hi ≤ 256) (hn : (n : Int) = wd * hi) (k : Nat) (hk : k < ps.length) :
    (readF wd ps k : Int) = ps[k].1 + wd * ps[k].2 ∧ readF wd ps k < n ∧ 0 ≤ wd * ps[k].2 ∧ wd * ps[k].2 ≤ 256 ∧ 0 ≤ ps[k].1 ∧ ps[k].1 ≤ 256 ∧ 0 ≤ ps[k].2 ∧ ps[k].2 ≤ 256 := by
  have hc := (probes_parts h).2 k hk
  obtain ⟨i1, i2, i3, i4⟩ := index_in hc t2
  obtain ⟨j1, j2, j3, j4⟩ := cell_in hc
  have e : readF wd ps k = (ps[k].1 + wd * ps[k].2).toNat := by
    unfold readF
    rw [List.getD_eq_getElem?_getD, List.getElem?_eq_getElem hk, Option.getD_some]
  rw [e, Int.toNat_of_nonneg i2]
  have hw1 : wd ≤ wd * hi := by
    have h1 : 0 ≤ wd := by omega
    have := Int.mul_le_mul_of_nonneg_left (show (1 : Int) ≤ hi by omega) h1
    omega
  have hw2 : hi ≤ wd * hi := by
    have h1 : 0 ≤ hi := by omega
    have := Int.mul_le_mul_of_nonneg_right (show (1 : Int) ≤ wd by omega) h1
    omega
  exact ⟨rfl, by omega, i1, i4, j1, by omega, j3, by omega⟩

theorem outs_endG {w wr : World} {v : Value} {n : Nat} {zs : List Nat} (h : Outs w wr v n zs) : ∃ a c, v = .slice a n c ∧ OwnV wr w.heap.size a (fvals zs) ∧ Below w.heap.size w wr := by
  rcases h.2.1.2 with ⟨hv, h0⟩ | ⟨g, cap, cur, hv, _⟩
  · subst hv; subst h0
    exact ⟨none, 0, rfl, OwnV.of_owned h.2.1, h.2.2⟩
  · subst hv
    exact ⟨_, cap, rfl, OwnV.of_owned h.2.1, h.2.2⟩

theorem make_f32capA (n : Nat) (hn : n ≤ 1048576) (w : World) : (Instr.makeSlice 34 (.int .i64 0) (.int .i64 (n : Int))).run Try.prog w = .ok (.slice (some ⟨w.heap.size, 0, none⟩) 0 n) (w.alloc (.cells (Array.replicate n (Value.float .f32 0)) 22)) := by
  have := make_f32cap n hn w
  rwa [List.toArray_replicate] at this

theorem outs_capA (w : World) (n : Nat) (hn : n ≤ 1048576) : Outs w (w.alloc (.cells (Array.replicate n (Value.float .f32 0)) 22)) (.slice (some ⟨w.heap.size, 0, none⟩) 0 n) 0 [] := by
  have := outs_cap w n hn
  rwa [List.toArray_replicate] at this

theorem own_block_lt {w : World} {B : Nat} {t : TypeId} {s n : Nat} {v : Value} {xs : List Value} (h : w.ownsRow B t s v n xs) : ∀ k, v.ownBlock = some k → k < w.heap.size := by
  intro k hk
  rcases h.2 with ⟨hv, _⟩ | ⟨g, cap, cur, hv, _, hb, _⟩
  · subst hv; cases hk
  · subst hv
    simp only [Value.ownBlock, Option.some.injEq] at hk
    subst hk
    rcases Nat.lt_or_ge g w.heap.size with a | a
    · exact a
    · rw [Array.getElem?_eq_none a] at hb; cases hb

theorem keepB2c3 {u w' : World} {g0 g1 : Nat} {c0 c1 : Array Value} {t0 t1 : TypeId} {p0 p1 p2 : Addr} {v0 v1 v2 : Value} (x0 : Blk u g0 c0 t0) (x1 : Blk u g1 c1 t1) (y0 : u.cell? p0 = some v0) (y1 : u.cell? p1 = some v1) (y2 : u.cell? p2 = some v2) (b : Below u.heap.size u w') : (∀ i, w'.cell? ⟨g0, i, none⟩ = c0[i]?) ∧ (∀ i, w'.cell? ⟨g1, i, none⟩ = c1[i]?) ∧ w'.cell? p0 = some v0 ∧ w'.cell? p1 = some v1 ∧ w'.cell? p2 = some v2 ∧ Below u.heap.size u w' :=
  ⟨(x0.below b x0.lt).open.1, (x1.below b x1.lt).open.1, cell_on y0 b, cell_on y1 b, cell_on y2 b, b⟩

theorem keepQ2c1 {u w' : World} {g0 g1 g2 : Nat} {c0 c1 c2 : Array Value} {t0 t1 t2 : TypeId} {p : Addr} {v : Value} (x0 : Blk u g0 c0 t0) (x1 : Blk u g1 c1 t1) (y0 : u.cell? p = some v) (x2 : Blk w' g2 c2 t2) (b : Below u.heap.size u w') : (∀ i, w'.cell? ⟨g0, i, none⟩ = c0[i]?) ∧ (∀ i, w'.cell? ⟨g1, i, none⟩ = c1[i]?) ∧ (∀ i, w'.cell? ⟨g2, i, none⟩ = c2[i]?) ∧ w'.cell? p = some v ∧ Below u.heap.size u w' :=
  ⟨(x0.below b x0.lt).open.1, (x1.below b x1.lt).open.1, x2.open.1, cell_on y0 b, b⟩

set_option maxHeartbeats 8000000 in
set_option maxRecDepth 100000 in
theorem specReadOf (g gf : Nat) (wd hi : Int) (wb : Bool) (a b : Option Addr) (ca cb : Nat) (xs ys : List Nat) (a0 a1 a2 : Option Addr) (c0 c1 c2 : Nat) (e x y : List Nat) (p : Option Addr) (cp : Nat) (ps : List (Int × Int)) (w : World) (X : Blk w g #[.int .i64 wd, .int .i64 hi, .bool wb, .slice a xs.length ca, .slice b ys.length cb] 52) (Y : Blk w gf #[.slice a0 e.length c0, .slice a1 x.length c1, .slice a2 y.length c2] 70) (h0 : RowV w a0 (fvals e)) (q0 : ∀ z ∈ e, z < 2 ^ 32) (hp : RowV w p (pvals ps)) (hpb : probesB wd hi ps = true) (t2 : wd * hi ≤ 256) (hl : (e.length : Int) = wd * hi) (s1 : 3 ≤ wd) (s2 : wd ≤ 16) :
    Calls Try.prog 84 #[.pointer (some ⟨g, 0, none⟩), .pointer (some ⟨gf, 0, none⟩), .slice p ps.length cp] w fun r w' => ∃ a9 c9, r = .returned (.slice a9 ps.length c9) ∧ OwnV w' w.heap.size a9 (fvals (placed (readF wd ps) ps.length e)) ∧ Below w.heap.size w w' := by
  have h8 := (probes_parts hpb).1
  have HF := Lib.hid (fun (k : Nat) (hk : k < ps.length) => readF_in (n := e.length) hpb t2 hl k hk)
  have he256 : e.length ≤ 256 := by omega
  clear hpb t2 hl
  generalize hm : ps.length = m at h8 ⊢
  have HPL := Lib.hid hm; clear hm
  have hm8 : (m : Int) ≤ 8 := by omega
  have HB : Hid (Below w.heap.size w w) := Lib.hid (Below.refl _ _)
  go_enter Try.func84, Try.ntmps84
  have OS := Lib.hid (outs_start w)
  go_wp2
  go_loopw [7, 8] (fun vv iv wr => ∃ k : Nat, k ≤ m ∧ iv = .int .i64 k ∧ Outs w wr vv k (placed (readF wd ps) k e)) (fun _ iv _ => m - (intOf iv).toNat)
  case atStart => exact ⟨0, Nat.zero_le _, rfl, OS.out⟩
  case round =>
    obtain ⟨k, hk, rfl, hout⟩ := hrel
    have HO := Lib.hid hout; clear hout OS
    by_cases hlt : k < m
    · skip
      have k1 : k < ps.length := by rw [HPL.out]; exact hlt
      obtain ⟨hq, hql, hw0, hw1, hx0, hx1, hy0, hy1⟩ := HF.out k k1
      have hx := pvals_get k1
      have HLS : Hid (placed (readF wd ps) (k + 1) e = placed (readF wd ps) k e ++ [e.getD (readF wd ps k) 0]) := Lib.hid (placed_succ _ _ _)
      generalize hfk : readF wd ps k = q at *
      clear hfk
      obtain ⟨b0, o0, rfl, hcu⟩ := (h0.later HB.out) q _ (fvals_get hql)
      have HG := Lib.hid (getD_get hql)
      generalize e[q] = z at *
      obtain ⟨b1, o1, rfl, d0⟩ := (hp.later HB.out) _ _ hx.1
      obtain ⟨b1', o1', e1', d1⟩ := (hp.later HB.out) _ _ hx.2
      cases e1'
      replace d1 : w.cell? ⟨b1, o1 + k * 2 + 1, none⟩ = some (.int .i64 ps[k].2) := d1
      generalize ps[k].1 = px at *
      generalize ps[k].2 = py at *
      clear hx
      have qn : (q : Int) < (e.length : Int) := by omega
      have hkm : (k : Int) < (m : Int) := by omega
      obtain ⟨ti, hi0, hz0, hz1, hz2⟩ := info_parts Try.infoF32
      have HI := Lib.hid hi0; have HZ0 := Lib.hid hz0; have HZ1 := Lib.hid hz1; have HZ2 := Lib.hid hz2; clear hi0 hz0 hz1 hz2
      have hown := HO.out.2.1
      have hq2 := hq.symm; clear hq
      have hwr1 : IntKind.i64.wrap (wd * py) = wd * py := IntWalk.i64_in _ (by omega)
      have hwr2 : IntKind.i64.wrap (px + wd * py) = (q : Int) := by rw [hq2]; exact IntWalk.i64_in _ (by omega)
      have hq0 : (0 : Int) ≤ (q : Int) := by omega
      clear hq2
      go_upto_region 5 with (fail)
      go_region_held3 (fun w' => (∀ i, w'.cell? ⟨gf, i, none⟩ = (#[.slice (some ⟨b0, o0, none⟩) e.length c0, .slice a1 x.length c1, .slice a2 y.length c2] : Array Value)[i]?) ∧ (∀ i, w'.cell? ⟨g, i, none⟩ = (#[.int .i64 wd, .int .i64 hi, .bool wb, .slice a xs.length ca, .slice b ys.length cb] : Array Value)[i]?) ∧ w'.cell? ⟨b0, o0 + q, none⟩ = some (.float .f32 z) ∧ w'.cell? ⟨b1, o1 + k * 2, none⟩ = some (.int .i64 px) ∧ w'.cell? ⟨b1, o1 + k * 2 + 1, none⟩ = some (.int .i64 py) ∧ Below w.heap.size w w') (first | exact keepB2c3 Y X hcu d0 d1 (HO.out.2.2.drew) | exact keepB2c3 Y X hcu d0 d1 (below_next (HO.out.2.2.drew) (below_new _ _)) | exact keepB2c3 Y X hcu d0 d1 (Below.grown (below_next (HO.out.2.2.drew) (below_new _ _)) hgrow (by have := HO.out.2.2.size; simp; omega) (fun k hk => (hown.lt k hk).1)))
        ((refine step_append_lies _ (by rfl) _ _ _ (by rfl) w.heap.size 22 ti (.float .f32 0) 1 4 Try.underlying34 HI.out HZ0.out HZ1.out HZ2.out rfl (by decide) _ _ _ (by rfl) ((outs_later HO.out (below_drew _)).2.1.alloc _) ⟨wr.heap.size, 0, none⟩ 1 1 [.float .f32 z] (by rfl) (by rfl) (one_news _ _) (one_cells _) (by decide) (by unfold maxLen; omega) (by omega) (by have := HO.out.2.2.size; simp; omega) (wr.heap.size + 1) (by simp) ?_; intro gg cap w9 hown' hgrow _ _))
      have HO2 := Lib.hid (outs_next (outs_later HO.out (below_drew _)) hown' hgrow); clear hown hown' hgrow
      go_wp2
      go_roundw
      case rel => exact ⟨k + 1, by omega, by go_num, by rw [HLS.out, HG.out]; exact HO2.out⟩
      case measure => simp [intOf]; omega
    · skip
      obtain rfl : k = m := by omega
      obtain ⟨a9, c9, rfl, hown, hb9⟩ := outs_endG HO.out
      go_wp2
      go_ret
      exact ⟨a9, c9, rfl, hown, hb9⟩

set_option maxHeartbeats 8000000 in
set_option maxRecDepth 100000 in
theorem specReadProbesL (wd hi : Int) (wb : Bool) (a b : Option Addr) (ca cb : Nat) (xs ys : List Nat) (a0 a1 a2 : Option Addr) (c0 c1 c2 : Nat) (e x y : List Nat) (p : Option Addr) (cp : Nat) (ps : List (Int × Int)) (w : World) (ha : RowV w a (fvals xs)) (hb : RowV w b (fvals ys)) (qa : ∀ z ∈ xs, z < 2 ^ 32) (qb : ∀ z ∈ ys, z < 2 ^ 32) (hx : xs.length ≤ maxLen) (hy : ys.length ≤ maxLen) (h0 : RowV w a0 (fvals e)) (h1 : RowV w a1 (fvals x)) (h2 : RowV w a2 (fvals y)) (q0 : ∀ z ∈ e, z < 2 ^ 32) (q1 : ∀ z ∈ x, z < 2 ^ 32) (q2 : ∀ z ∈ y, z < 2 ^ 32) (m0 : e.length ≤ maxLen) (m1 : x.length ≤ maxLen) (m2 : y.length ≤ maxLen) (hp : RowV w p (pvals ps)) (hn : ps.length ≤ maxLen) :
    Calls Try.prog 43 #[.agg #[.int .i64 wd, .int .i64 hi, .bool wb, .slice a xs.length ca, .slice b ys.length cb], .agg #[.slice a0 e.length c0, .slice a1 x.length c1, .slice a2 y.length c2], .slice p ps.length cp] w (GaveL w (readB wd hi wb xs ys e x y ps) (placed (readF wd ps) ps.length e)) := by
  have hfb : fieldB wd hi wb xs ys e x y = (validB wd hi xs ys && fitsB wd hi wb e x y) := rfl; have HFB := Lib.hid hfb; clear hfb
  rcases hv : validB wd hi xs ys with _ | _
  · skip
    have HR : Hid (readB wd hi wb xs ys e x y ps = false) := Lib.hid (by unfold readB; rw [HFB.out, hv]; rfl)
    rw [HR.out]
    have H_v := Lib.hid hv; clear hv
    have X := Blk.new w #[.int .i64 wd, .int .i64 hi, .bool wb, .slice a xs.length ca, .slice b ys.length cb] 52
    have Y := Blk.new1 w (.cells #[.int .i64 wd, .int .i64 hi, .bool wb, .slice a xs.length ca, .slice b ys.length cb] 52) #[.slice a0 e.length c0, .slice a1 x.length c1, .slice a2 y.length c2] 70
    replace X := X.alloc (.cells #[.slice a0 e.length c0, .slice a1 x.length c1, .slice a2 y.length c2] 70)
    have HB : Hid (Below w.heap.size w ((w.alloc (.cells #[.int .i64 wd, .int .i64 hi, .bool wb, .slice a xs.length ca, .slice b ys.length cb] 52)).alloc (.cells #[.slice a0 e.length c0, .slice a1 x.length c1, .slice a2 y.length c2] 70))) := Lib.hid (((Below.refl w.heap.size w).alloc (by simp <;> omega) _).alloc (by simp <;> omega) _)
    go_enter Try.func43, Try.ntmps43
    go_wp2_with fail
    generalize ((w.alloc (.cells #[.int .i64 wd, .int .i64 hi, .bool wb, .slice a xs.length ca, .slice b ys.length cb] 52)).alloc (.cells #[.slice a0 e.length c0, .slice a1 x.length c1, .slice a2 y.length c2] 70)) = u1 at *
    refine (specIs _ _ _ _ _ _ _ _ _ _ _ X (ha.later HB.out) (hb.later HB.out) hx hy).mono ?_
    rintro r u2 ⟨rfl, nq, hw⟩
    have q : Below u1.heap.size u1 u2 := by rw [hw]; exact below_drewN (Below.refl _ _) _
    clear hw
    replace X := X.later q
    replace Y := Y.later q
    replace HB := Lib.hid (HB.out.trans (q.mono HB.out.size))
    clear q
    rw [H_v.out]
    obtain ⟨Xc, Xf⟩ := X.open
    obtain ⟨Yc, Yf⟩ := Y.open
    go_wp2
    go_ret2
    exact ⟨none, 0, [], rfl, GotList.none HB.out⟩
  obtain ⟨s1, s2, s3, s4, t1, t2⟩ := sides_mul (valid_sides hv)
  rcases hf : fitsB wd hi wb e x y with _ | _
  · skip
    have HR : Hid (readB wd hi wb xs ys e x y ps = false) := Lib.hid (by unfold readB; rw [HFB.out, hv, hf]; rfl)
    rw [HR.out]
    have H_v := Lib.hid hv; have H_f := Lib.hid hf; clear hv hf t1 t2
    have X := Blk.new w #[.int .i64 wd, .int .i64 hi, .bool wb, .slice a xs.length ca, .slice b ys.length cb] 52
    have Y := Blk.new1 w (.cells #[.int .i64 wd, .int .i64 hi, .bool wb, .slice a xs.length ca, .slice b ys.length cb] 52) #[.slice a0 e.length c0, .slice a1 x.length c1, .slice a2 y.length c2] 70
    replace X := X.alloc (.cells #[.slice a0 e.length c0, .slice a1 x.length c1, .slice a2 y.length c2] 70)
    have HB : Hid (Below w.heap.size w ((w.alloc (.cells #[.int .i64 wd, .int .i64 hi, .bool wb, .slice a xs.length ca, .slice b ys.length cb] 52)).alloc (.cells #[.slice a0 e.length c0, .slice a1 x.length c1, .slice a2 y.length c2] 70))) := Lib.hid (((Below.refl w.heap.size w).alloc (by simp <;> omega) _).alloc (by simp <;> omega) _)
    go_enter Try.func43, Try.ntmps43
    go_wp2_with fail
    generalize ((w.alloc (.cells #[.int .i64 wd, .int .i64 hi, .bool wb, .slice a xs.length ca, .slice b ys.length cb] 52)).alloc (.cells #[.slice a0 e.length c0, .slice a1 x.length c1, .slice a2 y.length c2] 70)) = u1 at *
    refine (specIs _ _ _ _ _ _ _ _ _ _ _ X (ha.later HB.out) (hb.later HB.out) hx hy).mono ?_
    rintro r u2 ⟨rfl, nq, hw⟩
    have q : Below u1.heap.size u1 u2 := by rw [hw]; exact below_drewN (Below.refl _ _) _
    clear hw
    replace X := X.later q
    replace Y := Y.later q
    replace HB := Lib.hid (HB.out.trans (q.mono HB.out.size))
    clear q
    rw [H_v.out]
    obtain ⟨Xc, Xf⟩ := X.open
    obtain ⟨Yc, Yf⟩ := Y.open
    go_wp2_with fail
    refine (specFits _ _ _ _ _ _ _ _ _ _ _ _ _ _ _ _ _ _ _ _ _ X Y s1 s2 s3 s4 (h0.later HB.out) (h1.later HB.out) (h2.later HB.out) m0 m1 m2).mono ?_
    rintro r u3 ⟨rfl, nq, hw⟩
    have q : Below u2.heap.size u2 u3 := by rw [hw]; exact below_drewN (Below.refl _ _) _
    clear hw
    clear Xc Xf
    clear Yc Yf
    replace X := X.later q
    replace Y := Y.later q
    replace HB := Lib.hid (HB.out.trans (q.mono HB.out.size))
    clear q
    rw [H_f.out]
    obtain ⟨Xc, Xf⟩ := X.open
    obtain ⟨Yc, Yf⟩ := Y.open
    go_wp2
    go_ret2
    exact ⟨none, 0, [], rfl, GotList.none HB.out⟩
  have hfv : fieldB wd hi wb xs ys e x y = true := by rw [HFB.out, hv, hf]; rfl
  rcases hpb : probesB wd hi ps with _ | _
  · skip
    have HR : Hid (readB wd hi wb xs ys e x y ps = false) := Lib.hid (by unfold readB; rw [hfv, hpb]; rfl)
    rw [HR.out]
    have H_v := Lib.hid hv; have H_f := Lib.hid hf; have H_p := Lib.hid hpb; clear hv hf hpb hfv t1 t2
    have X := Blk.new w #[.int .i64 wd, .int .i64 hi, .bool wb, .slice a xs.length ca, .slice b ys.length cb] 52
    have Y := Blk.new1 w (.cells #[.int .i64 wd, .int .i64 hi, .bool wb, .slice a xs.length ca, .slice b ys.length cb] 52) #[.slice a0 e.length c0, .slice a1 x.length c1, .slice a2 y.length c2] 70
    replace X := X.alloc (.cells #[.slice a0 e.length c0, .slice a1 x.length c1, .slice a2 y.length c2] 70)
    have HB : Hid (Below w.heap.size w ((w.alloc (.cells #[.int .i64 wd, .int .i64 hi, .bool wb, .slice a xs.length ca, .slice b ys.length cb] 52)).alloc (.cells #[.slice a0 e.length c0, .slice a1 x.length c1, .slice a2 y.length c2] 70))) := Lib.hid (((Below.refl w.heap.size w).alloc (by simp <;> omega) _).alloc (by simp <;> omega) _)
    go_enter Try.func43, Try.ntmps43
    go_wp2_with fail
    generalize ((w.alloc (.cells #[.int .i64 wd, .int .i64 hi, .bool wb, .slice a xs.length ca, .slice b ys.length cb] 52)).alloc (.cells #[.slice a0 e.length c0, .slice a1 x.length c1, .slice a2 y.length c2] 70)) = u1 at *
    refine (specIs _ _ _ _ _ _ _ _ _ _ _ X (ha.later HB.out) (hb.later HB.out) hx hy).mono ?_
    rintro r u2 ⟨rfl, nq, hw⟩
    have q : Below u1.heap.size u1 u2 := by rw [hw]; exact below_drewN (Below.refl _ _) _
    clear hw
    replace X := X.later q
    replace Y := Y.later q
    replace HB := Lib.hid (HB.out.trans (q.mono HB.out.size))
    clear q
    rw [H_v.out]
    obtain ⟨Xc, Xf⟩ := X.open
    obtain ⟨Yc, Yf⟩ := Y.open
    go_wp2_with fail
    refine (specFits _ _ _ _ _ _ _ _ _ _ _ _ _ _ _ _ _ _ _ _ _ X Y s1 s2 s3 s4 (h0.later HB.out) (h1.later HB.out) (h2.later HB.out) m0 m1 m2).mono ?_
    rintro r u3 ⟨rfl, nq, hw⟩
    have q : Below u2.heap.size u2 u3 := by rw [hw]; exact below_drewN (Below.refl _ _) _
    clear hw
    clear Xc Xf
    clear Yc Yf
    replace X := X.later q
    replace Y := Y.later q
    replace HB := Lib.hid (HB.out.trans (q.mono HB.out.size))
    clear q
    rw [H_f.out]
    obtain ⟨Xc, Xf⟩ := X.open
    obtain ⟨Yc, Yf⟩ := Y.open
    go_wp2_with fail
    refine (specProbesOf _ _ _ _ _ _ _ _ _ _ X s1 s2 s3 s4 (hp.later HB.out) hn).mono ?_
    rintro r u4 ⟨rfl, nq, hw⟩
    have q : Below u3.heap.size u3 u4 := by rw [hw]; exact below_drewN (Below.refl _ _) _
    clear hw
    clear Xc Xf
    clear Yc Yf
    replace X := X.later q
    replace Y := Y.later q
    replace HB := Lib.hid (HB.out.trans (q.mono HB.out.size))
    clear q
    rw [H_p.out]
    obtain ⟨Xc, Xf⟩ := X.open
    obtain ⟨Yc, Yf⟩ := Y.open
    go_wp2
    go_ret2
    exact ⟨none, 0, [], rfl, GotList.none HB.out⟩
  have HR : Hid (readB wd hi wb xs ys e x y ps = true) := Lib.hid (by unfold readB; rw [hfv, hpb]; rfl)
  rw [HR.out]
  obtain ⟨p1, _, l0, l1, l2⟩ := field_parts hfv
  have h8 := (probes_parts hpb).1
  have HL0 := Lib.hid l0; have HT2 := Lib.hid t2
  have H_v := Lib.hid hv; have H_f := Lib.hid hf; have H_p := Lib.hid hpb; clear hv hf hpb hfv t1 t2 l0 l1 l2 p1
  have X := Blk.new w #[.int .i64 wd, .int .i64 hi, .bool wb, .slice a xs.length ca, .slice b ys.length cb] 52
  have Y := Blk.new1 w (.cells #[.int .i64 wd, .int .i64 hi, .bool wb, .slice a xs.length ca, .slice b ys.length cb] 52) #[.slice a0 e.length c0, .slice a1 x.length c1, .slice a2 y.length c2] 70
  replace X := X.alloc (.cells #[.slice a0 e.length c0, .slice a1 x.length c1, .slice a2 y.length c2] 70)
  have HB : Hid (Below w.heap.size w ((w.alloc (.cells #[.int .i64 wd, .int .i64 hi, .bool wb, .slice a xs.length ca, .slice b ys.length cb] 52)).alloc (.cells #[.slice a0 e.length c0, .slice a1 x.length c1, .slice a2 y.length c2] 70))) := Lib.hid (((Below.refl w.heap.size w).alloc (by simp <;> omega) _).alloc (by simp <;> omega) _)
  go_enter Try.func43, Try.ntmps43
  go_wp2_with fail
  generalize ((w.alloc (.cells #[.int .i64 wd, .int .i64 hi, .bool wb, .slice a xs.length ca, .slice b ys.length cb] 52)).alloc (.cells #[.slice a0 e.length c0, .slice a1 x.length c1, .slice a2 y.length c2] 70)) = u1 at *
  refine (specIs _ _ _ _ _ _ _ _ _ _ _ X (ha.later HB.out) (hb.later HB.out) hx hy).mono ?_
  rintro r u2 ⟨rfl, nq, hw⟩
  have q : Below u1.heap.size u1 u2 := by rw [hw]; exact below_drewN (Below.refl _ _) _
  clear hw
  replace X := X.later q
  replace Y := Y.later q
  replace HB := Lib.hid (HB.out.trans (q.mono HB.out.size))
  clear q
  rw [H_v.out]
  obtain ⟨Xc, Xf⟩ := X.open
  obtain ⟨Yc, Yf⟩ := Y.open
  go_wp2_with fail
  refine (specFits _ _ _ _ _ _ _ _ _ _ _ _ _ _ _ _ _ _ _ _ _ X Y s1 s2 s3 s4 (h0.later HB.out) (h1.later HB.out) (h2.later HB.out) m0 m1 m2).mono ?_
  rintro r u3 ⟨rfl, nq, hw⟩
  have q : Below u2.heap.size u2 u3 := by rw [hw]; exact below_drewN (Below.refl _ _) _
  clear hw
  clear Xc Xf
  clear Yc Yf
  replace X := X.later q
  replace Y := Y.later q
  replace HB := Lib.hid (HB.out.trans (q.mono HB.out.size))
  clear q
  rw [H_f.out]
  obtain ⟨Xc, Xf⟩ := X.open
  obtain ⟨Yc, Yf⟩ := Y.open
  go_wp2_with fail
  refine (specProbesOf _ _ _ _ _ _ _ _ _ _ X s1 s2 s3 s4 (hp.later HB.out) hn).mono ?_
  rintro r u4 ⟨rfl, nq, hw⟩
  have q : Below u3.heap.size u3 u4 := by rw [hw]; exact below_drewN (Below.refl _ _) _
  clear hw
  clear Xc Xf
  clear Yc Yf
  replace X := X.later q
  replace Y := Y.later q
  replace HB := Lib.hid (HB.out.trans (q.mono HB.out.size))
  clear q
  rw [H_p.out]
  obtain ⟨Xc, Xf⟩ := X.open
  obtain ⟨Yc, Yf⟩ := Y.open
  have HS0 := HB.out.size
  go_wp2_with fail
  refine (specReadOf _ _ _ _ _ _ _ _ _ _ _ _ _ _ _ _ _ _ _ _ _ _ _ _ X Y (h0.later HB.out) q0 (hp.later HB.out) H_p.out HT2.out HL0.out s1 s2).mono ?_
  rintro r v9 ⟨a9, c9, rfl, hown, hb9⟩
  have HB9 := Lib.hid (HB.out.trans (hb9.mono HB.out.size)); clear hb9
  go_wp2
  go_ret2
  exact ⟨a9, c9, placed (readF wd ps) ps.length e, by rw [placed_length]; rfl, ⟨hown.lower HS0, is_placed q0 (by omega), HB9.out⟩⟩

set_option maxHeartbeats 8000000 in
set_option maxRecDepth 100000 in
theorem implReadProbesL (wd hi : Int) (wb : Bool) (a b : Option Addr) (ca cb : Nat) (xs ys : List Nat) (a0 a1 a2 : Option Addr) (c0 c1 c2 : Nat) (e x y : List Nat) (p : Option Addr) (cp : Nat) (ps : List (Int × Int)) (w : World) (ha : RowV w a (fvals xs)) (hb : RowV w b (fvals ys)) (qa : ∀ z ∈ xs, z < 2 ^ 32) (qb : ∀ z ∈ ys, z < 2 ^ 32) (hx : xs.length ≤ maxLen) (hy : ys.length ≤ maxLen) (h0 : RowV w a0 (fvals e)) (h1 : RowV w a1 (fvals x)) (h2 : RowV w a2 (fvals y)) (q0 : ∀ z ∈ e, z < 2 ^ 32) (q1 : ∀ z ∈ x, z < 2 ^ 32) (q2 : ∀ z ∈ y, z < 2 ^ 32) (m0 : e.length ≤ maxLen) (m1 : x.length ≤ maxLen) (m2 : y.length ≤ maxLen) (hp : RowV w p (pvals ps)) (hn : ps.length ≤ maxLen) :
    Calls Try.prog 45 #[.agg #[.int .i64 wd, .int .i64 hi, .bool wb, .slice a xs.length ca, .slice b ys.length cb], .agg #[.slice a0 e.length c0, .slice a1 x.length c1, .slice a2 y.length c2], .slice p ps.length cp] w (GaveL w (readB wd hi wb xs ys e x y ps) (placed (readF wd ps) ps.length e)) := by
  rcases hfv : fieldB wd hi wb xs ys e x y with _ | _
  · skip
    have HR : Hid (readB wd hi wb xs ys e x y ps = false) := Lib.hid (by unfold readB; rw [hfv]; rfl)
    rw [HR.out]
    have H_fb := Lib.hid hfv; clear hfv
    have X := Blk.new w #[.int .i64 wd, .int .i64 hi, .bool wb, .slice a xs.length ca, .slice b ys.length cb] 52
    have Y := Blk.new1 w (.cells #[.int .i64 wd, .int .i64 hi, .bool wb, .slice a xs.length ca, .slice b ys.length cb] 52) #[.slice a0 e.length c0, .slice a1 x.length c1, .slice a2 y.length c2] 70
    replace X := X.alloc (.cells #[.slice a0 e.length c0, .slice a1 x.length c1, .slice a2 y.length c2] 70)
    have HB : Hid (Below w.heap.size w ((w.alloc (.cells #[.int .i64 wd, .int .i64 hi, .bool wb, .slice a xs.length ca, .slice b ys.length cb] 52)).alloc (.cells #[.slice a0 e.length c0, .slice a1 x.length c1, .slice a2 y.length c2] 70))) := Lib.hid (((Below.refl w.heap.size w).alloc (by simp <;> omega) _).alloc (by simp <;> omega) _)
    go_enter Try.func45, Try.ntmps45
    go_wp2_with fail
    generalize ((w.alloc (.cells #[.int .i64 wd, .int .i64 hi, .bool wb, .slice a xs.length ca, .slice b ys.length cb] 52)).alloc (.cells #[.slice a0 e.length c0, .slice a1 x.length c1, .slice a2 y.length c2] 70)) = u1 at *
    refine (implIsField _ _ _ _ _ _ _ _ _ _ _ _ _ _ _ _ _ _ _ (ha.later HB.out) (hb.later HB.out) hx hy (h0.later HB.out) (h1.later HB.out) (h2.later HB.out) m0 m1 m2).mono ?_
    rintro r u2 ⟨rfl, q⟩
    replace X := X.later q
    replace Y := Y.later q
    replace HB := Lib.hid (HB.out.trans (q.mono HB.out.size))
    clear q
    rw [H_fb.out]
    obtain ⟨Xc, Xf⟩ := X.open
    obtain ⟨Yc, Yf⟩ := Y.open
    go_wp2
    go_ret2
    exact ⟨none, 0, [], rfl, GotList.none HB.out⟩
  obtain ⟨p1, _, l0, l1, l2⟩ := field_parts hfv
  obtain ⟨s1, s2, s3, s4, t1, t2⟩ := sides_mul (valid_sides p1)
  rcases hpb : probesB wd hi ps with _ | _
  · skip
    have HR : Hid (readB wd hi wb xs ys e x y ps = false) := Lib.hid (by unfold readB; rw [hfv, hpb]; rfl)
    rw [HR.out]
    have H_fb := Lib.hid hfv; have H_v := Lib.hid p1; have H_p := Lib.hid hpb; clear hfv hpb l0 l1 l2 p1 t1 t2
    have X := Blk.new w #[.int .i64 wd, .int .i64 hi, .bool wb, .slice a xs.length ca, .slice b ys.length cb] 52
    have Y := Blk.new1 w (.cells #[.int .i64 wd, .int .i64 hi, .bool wb, .slice a xs.length ca, .slice b ys.length cb] 52) #[.slice a0 e.length c0, .slice a1 x.length c1, .slice a2 y.length c2] 70
    replace X := X.alloc (.cells #[.slice a0 e.length c0, .slice a1 x.length c1, .slice a2 y.length c2] 70)
    have HB : Hid (Below w.heap.size w ((w.alloc (.cells #[.int .i64 wd, .int .i64 hi, .bool wb, .slice a xs.length ca, .slice b ys.length cb] 52)).alloc (.cells #[.slice a0 e.length c0, .slice a1 x.length c1, .slice a2 y.length c2] 70))) := Lib.hid (((Below.refl w.heap.size w).alloc (by simp <;> omega) _).alloc (by simp <;> omega) _)
    go_enter Try.func45, Try.ntmps45
    go_wp2_with fail
    generalize ((w.alloc (.cells #[.int .i64 wd, .int .i64 hi, .bool wb, .slice a xs.length ca, .slice b ys.length cb] 52)).alloc (.cells #[.slice a0 e.length c0, .slice a1 x.length c1, .slice a2 y.length c2] 70)) = u1 at *
    refine (implIsField _ _ _ _ _ _ _ _ _ _ _ _ _ _ _ _ _ _ _ (ha.later HB.out) (hb.later HB.out) hx hy (h0.later HB.out) (h1.later HB.out) (h2.later HB.out) m0 m1 m2).mono ?_
    rintro r u2 ⟨rfl, q⟩
    replace X := X.later q
    replace Y := Y.later q
    replace HB := Lib.hid (HB.out.trans (q.mono HB.out.size))
    clear q
    rw [H_fb.out]
    obtain ⟨Xc, Xf⟩ := X.open
    obtain ⟨Yc, Yf⟩ := Y.open
    go_wp2_with fail
    refine (implAreProbes _ _ _ _ _ _ _ _ _ _ _ _ _ (ha.later HB.out) (hb.later HB.out) hx hy (hp.later HB.out) hn).mono ?_
    rintro r u3 ⟨rfl, q⟩
    clear Xc Xf
    clear Yc Yf
    replace X := X.later q
    replace Y := Y.later q
    replace HB := Lib.hid (HB.out.trans (q.mono HB.out.size))
    clear q
    rw [H_v.out, H_p.out]
    obtain ⟨Xc, Xf⟩ := X.open
    obtain ⟨Yc, Yf⟩ := Y.open
    go_wp2
    go_ret2
    exact ⟨none, 0, [], rfl, GotList.none HB.out⟩
  have HR : Hid (readB wd hi wb xs ys e x y ps = true) := Lib.hid (by unfold readB; rw [hfv, hpb]; rfl)
  rw [HR.out]
  have h8 := (probes_parts hpb).1
  have HF := Lib.hid (fun (k : Nat) (hk : k < ps.length) => readF_in (n := e.length) hpb t2 l0 k hk)
  have he256 : e.length ≤ 256 := by omega
  have H_fb := Lib.hid hfv; have H_v := Lib.hid p1; have H_p := Lib.hid hpb; clear hfv hpb l0 l1 l2 p1 t1 t2
  have X := Blk.new w #[.int .i64 wd, .int .i64 hi, .bool wb, .slice a xs.length ca, .slice b ys.length cb] 52
  have Y := Blk.new1 w (.cells #[.int .i64 wd, .int .i64 hi, .bool wb, .slice a xs.length ca, .slice b ys.length cb] 52) #[.slice a0 e.length c0, .slice a1 x.length c1, .slice a2 y.length c2] 70
  replace X := X.alloc (.cells #[.slice a0 e.length c0, .slice a1 x.length c1, .slice a2 y.length c2] 70)
  have HB : Hid (Below w.heap.size w ((w.alloc (.cells #[.int .i64 wd, .int .i64 hi, .bool wb, .slice a xs.length ca, .slice b ys.length cb] 52)).alloc (.cells #[.slice a0 e.length c0, .slice a1 x.length c1, .slice a2 y.length c2] 70))) := Lib.hid (((Below.refl w.heap.size w).alloc (by simp <;> omega) _).alloc (by simp <;> omega) _)
  go_enter Try.func45, Try.ntmps45
  go_wp2_with fail
  generalize ((w.alloc (.cells #[.int .i64 wd, .int .i64 hi, .bool wb, .slice a xs.length ca, .slice b ys.length cb] 52)).alloc (.cells #[.slice a0 e.length c0, .slice a1 x.length c1, .slice a2 y.length c2] 70)) = u1 at *
  refine (implIsField _ _ _ _ _ _ _ _ _ _ _ _ _ _ _ _ _ _ _ (ha.later HB.out) (hb.later HB.out) hx hy (h0.later HB.out) (h1.later HB.out) (h2.later HB.out) m0 m1 m2).mono ?_
  rintro r u2 ⟨rfl, q⟩
  replace X := X.later q
  replace Y := Y.later q
  replace HB := Lib.hid (HB.out.trans (q.mono HB.out.size))
  clear q
  rw [H_fb.out]
  obtain ⟨Xc, Xf⟩ := X.open
  obtain ⟨Yc, Yf⟩ := Y.open
  go_wp2_with fail
  refine (implAreProbes _ _ _ _ _ _ _ _ _ _ _ _ _ (ha.later HB.out) (hb.later HB.out) hx hy (hp.later HB.out) hn).mono ?_
  rintro r u3 ⟨rfl, q⟩
  clear Xc Xf
  clear Yc Yf
  replace X := X.later q
  replace Y := Y.later q
  replace HB := Lib.hid (HB.out.trans (q.mono HB.out.size))
  clear q
  rw [H_v.out, H_p.out]
  obtain ⟨Xc, Xf⟩ := X.open
  obtain ⟨Yc, Yf⟩ := Y.open
  go_wp2_with fail
  refine (implShapeOf _ _ _ _ _ _ _ _ _ _).mono ?_
  rintro r u4 ⟨rfl, q⟩
  clear Xc Xf
  clear Yc Yf
  replace X := X.later q
  replace Y := Y.later q
  replace HB := Lib.hid (HB.out.trans (q.mono HB.out.size))
  clear q
  have hmk := make_f32capA ps.length (by omega)
  have Z := Blk.new u4 #[.int .i64 wd, .int .i64 hi, .bool wb] 101
  have q := below_new u4 (.cells #[.int .i64 wd, .int .i64 hi, .bool wb] 101)
  replace X := X.later q
  replace Y := Y.later q
  replace HB := Lib.hid (HB.out.trans (q.mono HB.out.size))
  clear q
  go_upto_region 4 with (fail)
  generalize u4.alloc (.cells #[.int .i64 wd, .int .i64 hi, .bool wb] 101) = u5 at *
  obtain ⟨Xc, Xf⟩ := X.open
  obtain ⟨Yc, Yf⟩ := Y.open
  obtain ⟨Zc, Zf⟩ := Z.open
  go_wp2
  have HS0 := HB.out.size
  generalize hm : ps.length = m at h8 ⊢
  have HPL := Lib.hid hm; clear hm
  have hm8 : (m : Int) ≤ 8 := by omega
  clear hmk
  have OS := Lib.hid (outs_capA u5 m (by omega))
  have zZ := Z.lt; have zY := Y.lt
  go_loopw [9, 11, 29] (fun vv _ iv wr => ∃ k : Nat, k ≤ m ∧ iv = .int .i64 k ∧ Outs u5 wr vv k (placed (readF wd ps) k e)) (fun _ _ iv _ => m - (intOf iv).toNat)
  case atStart => exact ⟨0, Nat.zero_le _, rfl, OS.out⟩
  case round =>
    obtain ⟨k, hk, rfl, hout⟩ := hrel
    have HO := Lib.hid hout; clear hout OS
    have HBW := Lib.hid (HB.out.trans (HO.out.2.2.mono HB.out.size))
    by_cases hlt : k < m
    · skip
      have k1 : k < ps.length := by rw [HPL.out]; exact hlt
      obtain ⟨hq, hql, hw0, hw1, hx0, hx1, hy0, hy1⟩ := HF.out k k1
      have hx := pvals_get k1
      have HLS : Hid (placed (readF wd ps) (k + 1) e = placed (readF wd ps) k e ++ [e.getD (readF wd ps k) 0]) := Lib.hid (placed_succ _ _ _)
      generalize hfk : readF wd ps k = q at *
      clear hfk
      obtain ⟨b0, o0, rfl, hcu⟩ := (h0.later HB.out) q _ (fvals_get hql)
      have HG := Lib.hid (getD_get hql)
      generalize e[q] = z at *
      obtain ⟨b1, o1, rfl, d0⟩ := (hp.later HB.out) _ _ hx.1
      obtain ⟨b1', o1', e1', d1⟩ := (hp.later HB.out) _ _ hx.2
      cases e1'
      replace d1 : u5.cell? ⟨b1, o1 + k * 2 + 1, none⟩ = some (.int .i64 ps[k].2) := d1
      generalize ps[k].1 = px at *
      generalize ps[k].2 = py at *
      clear hx
      have qn : (q : Int) < (e.length : Int) := by omega
      have hkm : (k : Int) < (m : Int) := by omega
      obtain ⟨ti, hi0, hz0, hz1, hz2⟩ := info_parts Try.infoF32
      have HI := Lib.hid hi0; have HZ0 := Lib.hid hz0; have HZ1 := Lib.hid hz1; have HZ2 := Lib.hid hz2; clear hi0 hz0 hz1 hz2
      have hown := HO.out.2.1
      have HQ : Hid (px + wd * py = (q : Int)) := Lib.hid hq.symm; clear hq
      have e0 := cell_on d0 HO.out.2.2
      have e1 := cell_on d1 HO.out.2.2
      have P0 := Blk.new wr #[.int .i64 px, .int .i64 py] 110
      have HO0 := Lib.hid (outs_later HO.out (below_new wr (.cells #[.int .i64 px, .int .i64 py] 110)))
      have Z1 := Z.later HO0.out.2.2; have Y1 := Y.later HO0.out.2.2
      have hsz0 := HO.out.2.2.size
      have HNE := Lib.hid (own_block_lt HO.out.2.1)
      go_upto_region 8 with (fail)
      clear Xc Xf Yc Yf Zc Zf e0 e1
      generalize hv0 : wr.alloc (.cells #[.int .i64 px, .int .i64 py] 110) = v0 at *
      have hv0s : v0.heap.size = wr.heap.size + 1 := by rw [← hv0]; simp
      clear hv0
      have hb0 : Below u5.heap.size u5 v0 := HO0.out.2.2
      go_region_held3 (fun w' => (∀ i, w'.cell? ⟨w.heap.size + 1, i, none⟩ = (#[.slice (some ⟨b0, o0, none⟩) e.length c0, .slice a1 x.length c1, .slice a2 y.length c2] : Array Value)[i]?) ∧ (∀ i, w'.cell? ⟨u4.heap.size, i, none⟩ = (#[.int .i64 wd, .int .i64 hi, .bool wb] : Array Value)[i]?) ∧ (∀ i, w'.cell? ⟨wr.heap.size, i, none⟩ = (#[.int .i64 px, .int .i64 py] : Array Value)[i]?) ∧ w'.cell? ⟨b0, o0 + q, none⟩ = some (.float .f32 z) ∧ Below u5.heap.size u5 w') (first | with_reducible exact keepQ2c1 Y Z hcu  (P0.later (below_drew v0)) (hb0.drew) | with_reducible exact keepQ2c1 Y Z hcu  ((P0.later (below_drew v0)).later qa0) (below_next (hb0.drew) qa0) | with_reducible exact keepQ2c1 Y Z hcu  (((P0.later (below_drew v0)).later qa0).later qa1) (below_next (below_next (hb0.drew) qa0) qa1) | with_reducible exact keepQ2c1 Y Z hcu  ((((P0.later (below_drew v0)).later qa0).later qa1).later (below_new _ _)) (below_next (below_next (below_next (hb0.drew) qa0) qa1) (below_new _ _)) | exact keepQ2c1 Y Z hcu  (((((P0.later (below_drew v0)).later qa0).later qa1).later (below_new _ _)).grown hgrow (by intro hh; have := HNE.out _ hh.symm; omega)) (Below.grown (below_next (below_next (below_next (hb0.drew) qa0) qa1) (below_new _ _)) hgrow (by have := HO0.out.2.2.size; simp; omega) (fun k hk => (hown.lt k hk).1)))
        (first
          | (go_at_call 81; (with_reducible refine (probePlace _ _ _).mono ?_); rintro r v1 ⟨rfl, qa0⟩; have zz0 : v0.heap.size ≤ v1.heap.size := qa0.size)
          | (go_at_call 86; (with_reducible refine (implIndexQ0 _ _ _ _ _ q _ HQ hw0 hw1 (by omega) (by omega)).mono ?_); rintro r v2 ⟨rfl, qa1⟩; have zz1 : v1.heap.size ≤ v2.heap.size := qa1.size)
          | (refine step_append_lies _ (by rfl) _ _ _ (by rfl) u5.heap.size 22 ti (.float .f32 0) 1 4 Try.underlying34 HI.out HZ0.out HZ1.out HZ2.out rfl (by decide) _ _ _ (by rfl) ((outs_later HO0.out (below_next (below_next (below_drew v0) qa0) qa1)).2.1.alloc _) ⟨v2.heap.size, 0, none⟩ 1 1 [.float .f32 z] (by rfl) (by rfl) (one_news _ _) (one_cells _) (by decide) (by unfold maxLen; omega) (by omega) (by have := HO0.out.2.2.size; simp; omega) (v2.heap.size + 1) (by simp) ?_; intro gg cap w9 hown' hgrow _ _))
      have HO2 := Lib.hid (outs_next (outs_later HO0.out (below_next (below_next (below_drew v0) qa0) qa1)) hown' hgrow); clear hown hown' hgrow
      go_wp2
      go_roundw
      case rel => exact ⟨k + 1, by omega, by go_num, by rw [HLS.out, HG.out]; exact HO2.out⟩
      case measure => simp [intOf]; omega
    · skip
      obtain rfl : k = m := by omega
      obtain ⟨a9, c9, rfl, hown, hb9⟩ := outs_endG HO.out
      go_wp2
      go_ret2
      exact ⟨a9, c9, placed (readF wd ps) k e, by rw [placed_length]; rfl, ⟨hown.lower HS0, (by rw [HPL.out]; exact is_placed q0 (by omega)), HBW.out⟩⟩

end Go.Proofs.Ytkcododhfliobaa

end

section

namespace Go.Proofs.Ytkcododhfliobaa
open Go Ieee Go.RowKit
set_option linter.unusedVariables false

def marksI (k : Int) (n : Nat) : List Int := (List.range n).map fun (i : Nat) => k + (i : Int)
theorem marksI_length (k : Int) (n : Nat) : (marksI k n).length = n := by simp [marksI]
theorem marksI_get {k : Int} {n i : Nat} (h : i < n) : (ivals (marksI k n))[i]? = some (.int .i64 (k + i)) := by
  rw [ivals_get (by rw [marksI_length]; exact h)]
  simp [marksI]

def markedI (k : Int) (vs : List Value) (i : Nat) : List Value := ((ivals (marksI k vs.length)).take i) ++ vs.drop i
theorem markedI_zero (k : Int) (vs : List Value) : markedI k vs 0 = vs := by simp [markedI]
theorem markedI_all (k : Int) (vs : List Value) : markedI k vs vs.length = ivals (marksI k vs.length) := by
  unfold markedI
  rw [List.drop_length, List.append_nil, List.take_of_length_le (by rw [ivals_length, marksI_length]; exact Nat.le_refl _)]
theorem markedI_length (k : Int) (vs : List Value) (i : Nat) (h : i ≤ vs.length) : (markedI k vs i).length = vs.length := by
  unfold markedI; simp [ivals_length, marksI_length]; omega
theorem markedI_next (k : Int) (vs : List Value) (i : Nat) (h : i < vs.length) : (markedI k vs i).set i (.int .i64 (k + i)) = markedI k vs (i + 1) := by
  have hl := markedI_length k vs i (by omega)
  apply List.ext_getElem?
  intro j
  rw [List.getElem?_set]
  by_cases hj : i = j
  · subst hj
    rw [if_pos rfl, hl, if_pos h]
    unfold markedI
    rw [List.getElem?_append_left (by simp [ivals_length, marksI_length]; omega), List.getElem?_take, if_pos (by omega), marksI_get h]
  · rw [if_neg hj]
    unfold markedI
    by_cases h2 : j < i
    · rw [List.getElem?_append_left (by simp [ivals_length, marksI_length]; omega), List.getElem?_append_left (by simp [ivals_length, marksI_length]; omega), List.getElem?_take, List.getElem?_take, if_pos h2, if_pos (by omega)]
    · rw [List.getElem?_append_right (by simp [ivals_length, marksI_length]; omega), List.getElem?_append_right (by simp [ivals_length, marksI_length]; omega)]
      simp only [List.length_take, ivals_length, marksI_length, List.getElem?_drop]
      congr 1
      omega

def MarkedI (B : Nat) (a : Option Addr) (k : Int) (n : Nat) (w : World) (e : Ending) (w' : World) : Prop :=
  e = .returned (.int .i64 (k + n)) ∧ OwnV w' B a (ivals (marksI k n)) ∧ w.grownBy w' (blockOf a)

structure GotInts (B : Nat) (w w' : World) (m : List Int) (a : Option Addr) (y : List Int) : Prop where
  o : OwnV w' B a (ivals y)
  s : y = m ∧ y.length ≤ 256
  below : Below B w w'

theorem GotInts.none {B : Nat} {w w' : World} (b : Below B w w') : GotInts B w w' [] none [] := ⟨.inl ⟨rfl, rfl⟩, ⟨rfl, by decide⟩, b⟩

theorem fewI_max {y m : List Int} (h : y = m ∧ y.length ≤ 256) : y.length ≤ maxLen := by
  have := h.2
  unfold maxLen; omega

end Go.Proofs.Ytkcododhfliobaa

end

section

namespace Go.Proofs.Ytkcododhfliobaa
open Go Ieee Go.RowKit
set_option linter.unusedVariables false

set_option maxHeartbeats 2000000 in
theorem markP (B : Nat) (a : Option Addr) (ca n : Nat) (vs : List Value) (k : Int) (w : World) (hr : OwnV w B a vs) (hl : vs.length = n * 2) (hk : 0 ≤ k) (hn : k + n * 2 ≤ 16777216) :
    Calls Try.prog 49 #[.slice a n ca, .int .i64 k] w (MarkedI B a k (n * 2) w) := by
  rcases hr with ⟨rfl, rfl⟩ | ⟨g, cs, t, rfl, hg, hb, hv⟩
  · obtain rfl : n = 0 := by simp at hl; omega
    go_enter Try.func49, Try.ntmps49
    go_wp2
    refine wp_loop_rounds 1 ?_
    rw [rounds_succ]
    go_wp2
    go_ret
    exact ⟨by simp, .inl ⟨rfl, by simp [marksI, ivals]⟩, grown_refl _ _⟩
  · have HL := Lib.hid hl
    have HV := Lib.hid hv
    clear hl hv
    go_enter Try.func49, Try.ntmps49
    go_wp2
    go_loopw [1, 5] (fun q i wr => ∃ j : Nat, j ≤ n ∧ i = .int .i64 j ∧ q = .int .i64 (k + j * 2) ∧ (∃ cr, Blk wr g cr t ∧ ∀ (i : Nat) (u : Value), (markedI k vs (j * 2))[i]? = some u → cr[i]? = some u) ∧ w.grownBy wr (some g)) (fun _ i _ => n - (intOf i).toNat)
    case atStart => exact ⟨0, Nat.zero_le _, rfl, by simp, ⟨cs, hb, by rw [Nat.zero_mul, markedI_zero]; exact HV.out⟩, grown_refl _ _⟩
    case round =>
      obtain ⟨j, hj, rfl, rfl, ⟨cr, hcr, hvr⟩, hgr⟩ := hrel
      have HVR := Lib.hid hvr
      have HGR := Lib.hid hgr
      clear hvr hgr
      by_cases hlt : j < n
      · have hml := markedI_length k vs (j * 2) (by rw [HL.out]; omega)
        obtain ⟨old, ho⟩ : ∃ u, (markedI k vs (j * 2))[j * 2]? = some u := ⟨_, List.getElem?_eq_getElem (by rw [hml, HL.out]; omega)⟩
        obtain ⟨old2, ho2⟩ : ∃ u, (markedI k vs (j * 2))[j * 2 + 1]? = some u := ⟨_, List.getElem?_eq_getElem (by rw [hml, HL.out]; omega)⟩
        have hold := HVR.out _ _ ho
        have hold2 := HVR.out _ _ ho2
        have hsz : j * 2 + 1 < cr.size := (Array.getElem?_eq_some_iff.1 hold2).1
        have hc := hcr.open.1 (j * 2)
        have hc2 := hcr.open.1 (j * 2 + 1)
        have hf := hcr.open.2 (j * 2)
        have hf2 := hcr.open.2 (j * 2 + 1)
        rw [hold] at hc
        rw [hold2] at hc2
        have HM := Lib.hid (markedI_next k vs (j * 2) (by rw [HL.out]; omega))
        have HM2 := Lib.hid (markedI_next k vs (j * 2 + 1) (by rw [HL.out]; omega))
        have HS := Lib.hid ((hcr.set (j * 2) (.int .i64 (k + j * 2))).set (j * 2 + 1) (.int .i64 (k + j * 2 + 1)))
        have HZ := Lib.hid hsz
        clear hold hold2 hml hsz ho ho2
        have hkj : k + (j : Int) * 2 ≤ 16777216 := by omega
        go_wp2
        go_roundw
        case rel =>
          refine ⟨j + 1, by omega, by go_num, by go_num, ⟨_, HS.out, fun i u hu => ?_⟩, grown_set (grown_set HGR.out _ _) _ _⟩
          have e1 : (Value.int IntKind.i64 (k + ((j * 2 : Nat) : Int))) = .int .i64 (k + j * 2) := by simp
          have e2 : (Value.int IntKind.i64 (k + ((j * 2 + 1 : Nat) : Int))) = .int .i64 (k + j * 2 + 1) := by simp; omega
          rw [show (j + 1) * 2 = j * 2 + 1 + 1 by omega, ← HM2.out, ← HM.out, e1, e2, List.getElem?_set] at hu
          rw [Array.getElem?_setIfInBounds]
          by_cases he : j * 2 + 1 = i
          · subst he
            rw [if_pos rfl] at hu ⊢
            rw [Array.size_setIfInBounds, if_pos HZ.out]
            split at hu
            · exact hu
            · cases hu
          · rw [if_neg he] at hu ⊢
            rw [List.getElem?_set] at hu
            rw [Array.getElem?_setIfInBounds]
            by_cases he0 : j * 2 = i
            · subst he0
              rw [if_pos rfl] at hu ⊢
              rw [if_pos (by have := HZ.out; omega)]
              split at hu
              · exact hu
              · cases hu
            · rw [if_neg he0] at hu ⊢
              exact HVR.out i u hu
        case measure => simp [intOf]; omega
      · obtain rfl : j = n := by omega
        go_wp2
        go_ret
        refine ⟨by simp, .inr ⟨g, cr, t, rfl, hg, hcr, ?_⟩, HGR.out⟩
        have := HVR.out
        rw [← HL.out, markedI_all] at this
        rw [← HL.out]; exact this

set_option maxHeartbeats 2000000 in
theorem heldP (a : Option Addr) (ca n : Nat) (k : Int) (w : World) (hr : RowV w a (ivals (marksI k (n * 2)))) (hk : 0 ≤ k) (hn : k + n * 2 ≤ 16777216) :
    Calls Try.prog 52 #[.slice a n ca, .int .i64 k] w fun e w' => e = .returned (.int .i64 (k + n * 2)) ∧ w = w' := by
  go_enter Try.func52, Try.ntmps52
  go_wp2
  go_loop [1, 5] (fun q i => ∃ j : Nat, j ≤ n ∧ i = .int .i64 j ∧ q = .int .i64 (k + j * 2)) (fun _ i => n - (intOf i).toNat)
  case atStart => exact ⟨0, Nat.zero_le _, rfl, by simp⟩
  case round =>
    obtain ⟨j, hj, rfl, rfl⟩ := hrel
    by_cases hlt : j < n
    · obtain ⟨b, off, rfl, hc⟩ := hr (j * 2) _ (marksI_get (by omega))
      obtain ⟨b', off', e', hc2⟩ := hr (j * 2 + 1) _ (marksI_get (by omega))
      cases e'
      replace hc : w.cell? ⟨b, off + j * 2, none⟩ = some (.int .i64 (k + (j : Int) * 2)) := by rw [hc]; simp
      replace hc2 : w.cell? ⟨b, off + j * 2 + 1, none⟩ = some (.int .i64 (k + (j : Int) * 2 + 1)) := by rw [show off + j * 2 + 1 = off + (j * 2 + 1) by omega, hc2]; simp; omega
      have hkj : k + (j : Int) * 2 ≤ 16777216 := by omega
      go_wp2
      go_round
      case rel => exact ⟨j + 1, by omega, by go_num, by go_num⟩
      case measure => simp [intOf]; omega
    · obtain rfl : j = n := by omega
      go_wp2
      go_ret
      exact ⟨rfl, rfl⟩

end Go.Proofs.Ytkcododhfliobaa

end
