/- Several texts in one: facts on floats, lists, memory and the functions that the theorems beside this text use. Conditions: none beyond those of each theorem. -/
import Derived.Test.YtkcododhfliobaaBu2
import Derived.Test.YtkcododhfliobaaBu5
import Derived.Test.YtkcododhfliobaaBu4
import Derived.Test.YtkcododhfliobaaBu12

set_option linter.unusedVariables false

section

namespace Go.Proofs.Ytkcododhfliobaa
open Go Ieee Go.RowKit
set_option linter.unusedVariables false

/-- the cells of a list of pairs -/
def pvals (ps : List (Int × Int)) : List Value := ps.flatMap fun p => [.int .i64 p.1, .int .i64 p.2]

theorem pvals_length (ps : List (Int × Int)) : (pvals ps).length = ps.length * 2 := by
  induction ps with
  | nil => rfl
  | cons p ps ih => 
    show ((Value.int .i64 p.1) :: (.int .i64 p.2) :: pvals ps).length = _
    simp only [List.length_cons, ih]; omega

theorem pvals_get {ps : List (Int × Int)} {k : Nat} (h : k < ps.length) : (pvals ps)[k * 2]? = some (.int .i64 ps[k].1) ∧ (pvals ps)[k * 2 + 1]? = some (.int .i64 ps[k].2) := by
  induction ps generalizing k with
  | nil => simp at h
  | cons p ps ih =>
    cases k with
    | zero => exact ⟨rfl, rfl⟩
    | succ k =>
      have hk : k < ps.length := by simpa using h
      have e : pvals (p :: ps) = .int .i64 p.1 :: .int .i64 p.2 :: pvals ps := rfl
      rw [e, show (k + 1) * 2 = k * 2 + 1 + 1 by omega]
      simpa using ih hk

/-- a list behind i cells: what was copied, and what stood there -/
def partL (vs zs : List Value) (i : Nat) : List Value := vs.take i ++ zs.drop i
theorem partL_zero (vs zs : List Value) : partL vs zs 0 = zs := by simp [partL]
theorem partL_all {vs zs : List Value} (h : zs.length = vs.length) : partL vs zs vs.length = vs := by unfold partL; rw [List.take_of_length_le (Nat.le_refl _), List.drop_eq_nil_of_le (by omega), List.append_nil]
theorem partL_length {vs zs : List Value} (h : zs.length = vs.length) {i : Nat} (hi : i ≤ vs.length) : (partL vs zs i).length = vs.length := by simp [partL]; omega
theorem partL_set {vs zs : List Value} (h : zs.length = vs.length) {i : Nat} {u : Value} (hu : vs[i]? = some u) : (partL vs zs i).set i u = partL vs zs (i + 1) := by
  have hi : i < vs.length := (List.getElem?_eq_some_iff.1 hu).1
  apply List.ext_getElem?
  intro j
  rw [List.getElem?_set, partL_length h (by omega)]
  unfold partL
  by_cases hj : i = j
  · subst hj
    rw [if_pos rfl, if_pos hi, List.getElem?_append_left (by simp; omega), List.getElem?_take, if_pos (by omega), hu]
  · rw [if_neg hj]
    by_cases h2 : j < i
    · rw [List.getElem?_append_left (by simp; omega), List.getElem?_append_left (by simp; omega), List.getElem?_take, List.getElem?_take, if_pos h2, if_pos (by omega)]
    · rw [List.getElem?_append_right (by simp; omega), List.getElem?_append_right (by simp; omega)]
      simp only [List.length_take, List.getElem?_drop]
      congr 1
      omega

theorem OwnV.of_owned2 {w : World} {B s : Nat} {a : Option Addr} {vs : List Value} {e : TypeId} {n cap : Nat} (h : w.ownsRow B e s (.slice a n cap) n vs) : OwnV w B a vs := by
  rcases h.2 with ⟨h', hn⟩ | ⟨g, cap', cur, h', hg, hh, _, _, _, ht⟩
  · simp only [Value.slice.injEq] at h'
    refine .inl ⟨h'.1, ?_⟩
    have := h.1
    rw [hn] at this
    exact List.eq_nil_of_length_eq_zero (by simpa using this)
  · simp only [Value.slice.injEq] at h'
    refine .inr ⟨g, cur, e, h'.1, hg, hh, fun i u hu => ?_⟩
    rw [← ht, List.getElem?_take] at hu
    split at hu
    · simpa using hu
    · cases hu

theorem Try.infoProbe : (Try.prog.info? 110).map (fun i => (i.zero, i.size, i.bytes)) = some (some (.agg #[.int .i64 0, .int .i64 0]), 2, 16) := by kernel_rfl

theorem toProbe_any (x y : Int) (w : World) : Calls Try.prog 80 #[.agg #[.int .i64 x, .int .i64 y]] w fun e w' => e = .returned (.agg #[.int .i64 x, .int .i64 y]) ∧ Below w.heap.size w w' := by
  go_enter Try.func80, Try.ntmps80
  go_wp2
  refine bodyPost_ret (v := .agg #[.int .i64 x, .int .i64 y]) (by simp [results, Try.results80, go_sem]) rfl ⟨rfl, ?_⟩
  exact ((((Below.refl w.heap.size w).alloc (Nat.le_refl _) _).alloc (by simp) _).alloc (by simp <;> omega) _)

theorem eqProbe_any (x y : Int) (w : World) : Calls Try.prog 82 #[.agg #[.int .i64 x, .int .i64 y], .agg #[.int .i64 x, .int .i64 y]] w fun e w' => e = .returned (.bool true) ∧ Below w.heap.size w w' := by
  have HB : Hid (Below w.heap.size w ((w.alloc (.cells #[.int .i64 x, .int .i64 y] 110)).alloc (.cells #[.int .i64 x, .int .i64 y] 110))) := Lib.hid (((Below.refl w.heap.size w).alloc (Nat.le_refl _) _).alloc (by simp) _)
  go_enter Try.func82, Try.ntmps82
  go_wp2
  go_ret
  exact ⟨rfl, HB.out⟩

structure CopiedP (w w' : World) (ps : List (Int × Int)) (g : Nat) : Prop where
  o0 : OwnV w' w.heap.size (some ⟨g, 0, none⟩) (pvals ps)
  below : Below w.heap.size w w'
  lt : w.heap.size < w'.heap.size

theorem szProbeS_yes (a : Option Addr) (n ca : Nat) (l : Int) (w : World) (h : (n : Int) ≤ l) (hl : l ≤ 1048576) : Calls Try.prog 37 #[.slice a n ca, .int .i64 l] w fun e w' => e = .returned (.int .i64 (l - n)) ∧ Below w.heap.size w w' := by
  go_enter Try.func37, Try.ntmps37
  go_wp2
  go_ret
  exact ⟨rfl, Below.refl _ _⟩

theorem szProbeS_no (a : Option Addr) (n ca : Nat) (l : Int) (w : World) (h : l < (n : Int)) (h0 : 0 ≤ l) (hl : l ≤ 1048576) (hm : n ≤ maxLen) : Calls Try.prog 37 #[.slice a n ca, .int .i64 l] w fun e w' => e = .returned (.int .i64 (-1)) ∧ Below w.heap.size w w' := by
  unfold maxLen at hm
  go_enter Try.func37, Try.ntmps37
  go_wp2
  go_ret
  exact ⟨rfl, Below.refl _ _⟩

set_option maxHeartbeats 2000000 in
theorem toProbes (a : Option Addr) (cap : Nat) (ps : List (Int × Int)) (w : World) (hr : RowV w a (pvals ps)) (hn : ps.length ≤ 1048576) :
    Calls Try.prog 39 #[.slice a ps.length cap] w fun e w' => e = .returned (.slice (some ⟨w.heap.size, 0, none⟩) ps.length ps.length) ∧ OwnV w' w.heap.size (some ⟨w.heap.size, 0, none⟩) (pvals ps) ∧ Below w.heap.size w w' ∧ w.heap.size < w'.heap.size := by
  obtain ⟨i0, hi, hz0, hz1, hz2⟩ := info_parts Try.infoProbe
  generalize hlen : ps.length = n at *
  have HL := Lib.hid hlen
  clear hlen
  have hn1 : (n : Int) ≤ 1048576 := by omega
  have hbytes : i0.bytes * n ≤ 281474976710656 := by rw [hz2]; omega
  have HI := Lib.hid hi
  have HZ0 := Lib.hid hz0
  have HZ1 := Lib.hid hz1
  clear hi hz0 hz1 hz2
  go_enter Try.func39, Try.ntmps39
  go_wp2_with (at_make; refine wpList_make_full _ rfl _ _ 62 rfl w.heap.size 110 i0 (.agg #[.int .i64 0, .int .i64 0]) 2 Try.underlying62 HI.out HZ0.out HZ1.out .i64 .i64 _ _ n rfl rfl rfl rfl hbytes (by unfold maxLen; omega) (Nat.le_refl _) ?_; intro w1 hown hgrow)
  obtain ⟨zs, hzl, hown'⟩ : ∃ zs : List Value, zs.length = (pvals ps).length ∧ OwnV w1 w.heap.size (some ⟨w.heap.size, 0, none⟩) (partL (pvals ps) zs (0 * 2)) := ⟨(madeCells (Value.agg #[.int .i64 0, .int .i64 0]).cells (n * 2)).toList, by rw [Array.length_toList, size_madeCells, pvals_length, HL.out], by rw [Nat.zero_mul, partL_zero]; exact OwnV.of_owned2 hown⟩
  have hbel : Below w.heap.size w w1 := (Below.refl w.heap.size w).grown hgrow (Nat.le_refl _) (fun k hk => by cases hk)
  have hsz : w.heap.size < w1.heap.size := by
    obtain ⟨cs, t, _, hb, _⟩ := own_some hown'
    exact hb.lt
  have HZL := Lib.hid hzl; clear hzl
  clear hown hgrow
  go_wp2
  go_loopw [4] (fun i wr => ∃ k : Nat, k ≤ n ∧ i = .int .i64 k ∧ OwnV wr w.heap.size (some ⟨w.heap.size, 0, none⟩) (partL (pvals ps) zs (k * 2)) ∧ Below w.heap.size w wr ∧ w.heap.size < wr.heap.size) (fun i _ => n - (intOf i).toNat)
  case atStart => exact ⟨0, Nat.zero_le _, rfl, hown', hbel, hsz⟩
  case round =>
    obtain ⟨k, hk, rfl, hown, hb, hs⟩ := hrel
    have HO := Lib.hid hown
    have HW := Lib.hid hb
    clear hown hb hown' hbel hsz
    by_cases hlt : k < n
    · have hx := pvals_get (ps := ps) (k := k) (by rw [HL.out]; exact hlt)
      have HX := Lib.hid hx
      obtain ⟨b, off, rfl, d0⟩ := hr _ _ hx.1
      obtain ⟨b', off', e', d1⟩ := hr _ _ hx.2
      cases e'
      have hc0 : wr.cell? ⟨b, off + k * 2, none⟩ = _ := (Below.cell HW.out (p := ⟨b, off + k * 2, none⟩) (lt_of_cell d0)).trans d0
      have hc1 : wr.cell? ⟨b, off + k * 2 + 1, none⟩ = _ := (Below.cell HW.out (p := ⟨b, off + (k * 2 + 1), none⟩) (lt_of_cell d1)).trans d1
      clear d0 d1 hx
      go_wp2_with fail
      refine (toProbe_any _ _ _).mono ?_
      rintro e wt ⟨rfl, q⟩
      replace HO := Lib.hid (HO.out.later q)
      replace HW := Lib.hid (HW.out.trans (q.mono HW.out.size))
      have hs2 : w.heap.size < wt.heap.size := Nat.lt_of_lt_of_le hs q.size
      clear hc0 hc1 q
      obtain ⟨cs, tt, _, hblk, hv⟩ := own_some HO.out
      obtain ⟨gc, gf⟩ := hblk.open
      have hl : (partL (pvals ps) zs (k * 2)).length = n * 2 := by rw [partL_length HZL.out (by rw [pvals_length, HL.out]; omega), pvals_length, HL.out]
      have f0 : wt.cell? ⟨w.heap.size, k * 2, none⟩ = some _ := (gc _).trans (hv (k * 2) _ (List.getElem?_eq_getElem (by omega)))
      have f1 : wt.cell? ⟨w.heap.size, k * 2 + 1, none⟩ = some _ := (gc _).trans (hv (k * 2 + 1) _ (List.getElem?_eq_getElem (by omega)))
      generalize (partL (pvals ps) zs (k * 2))[k * 2]'(by omega) = z0 at f0
      generalize (partL (pvals ps) zs (k * 2))[k * 2 + 1]'(by omega) = z1 at f1
      have GF := Lib.hid gf
      clear gc hv hblk hl
      go_wp2
      go_roundw
      case rel =>
        have w0 : k * 2 < (partL (pvals ps) zs (k * 2)).length := by rw [partL_length HZL.out (by rw [pvals_length, HL.out]; omega), pvals_length, HL.out]; omega
        have p1 := own_put HO.out (k * 2) (.int .i64 (ps[k]'(by rw [HL.out]; exact hlt)).1) w0
        rw [partL_set HZL.out HX.out.1] at p1
        have w1 : k * 2 + 1 < (partL (pvals ps) zs (k * 2 + 1)).length := by rw [partL_length HZL.out (by rw [pvals_length, HL.out]; omega), pvals_length, HL.out]; omega
        have p2 := own_put p1 (k * 2 + 1) (.int .i64 (ps[k]'(by rw [HL.out]; exact hlt)).2) w1
        rw [partL_set HZL.out HX.out.2, show k * 2 + 1 + 1 = (k + 1) * 2 by omega] at p2
        exact ⟨k + 1, by omega, by go_num, p2, (HW.out.setCell (p := ⟨w.heap.size, k * 2, none⟩) (Nat.le_refl _) _).setCell (p := ⟨w.heap.size, k * 2 + 1, none⟩) (Nat.le_refl _) _, by simp; omega⟩
      case measure => simp [intOf]; omega
    · obtain rfl : k = n := by omega
      go_wp2
      go_ret
      have hp := partL_all (vs := pvals ps) (zs := zs) HZL.out
      rw [pvals_length, HL.out] at hp
      have := HO.out
      rw [hp] at this
      exact ⟨rfl, this, HW.out, hs⟩

theorem toProbeS_any (a : Option Addr) (cap : Nat) (ps : List (Int × Int)) (w : World) (hr : RowV w a (pvals ps)) (hn : ps.length ≤ 1048576) :
    Calls Try.prog 39 #[.slice a ps.length cap] w fun e w' => ∃ g, e = .returned (.slice (some ⟨g, 0, none⟩) ps.length ps.length) ∧ CopiedP w w' ps g :=
  (toProbes a cap ps w hr hn).mono fun e w' ⟨h1, h2, h3, h4⟩ => ⟨_, h1, h2, h3, h4⟩

theorem keep0c4_start {u : World} {p0 p1 p2 p3 : Addr} {v0 v1 v2 v3 : Value} (y0 : u.cell? p0 = some v0) (y1 : u.cell? p1 = some v1) (y2 : u.cell? p2 = some v2) (y3 : u.cell? p3 = some v3) : u.drew.cell? p0 = some v0 ∧ u.drew.cell? p1 = some v1 ∧ u.drew.cell? p2 = some v2 ∧ u.drew.cell? p3 = some v3 ∧ Below u.heap.size u u.drew :=
  ⟨y0, y1, y2, y3, (Below.refl _ _).drew⟩

theorem keep0c4_later {u w' w'' : World} {p0 p1 p2 p3 : Addr} {v0 v1 v2 v3 : Value} (y0 : u.cell? p0 = some v0) (y1 : u.cell? p1 = some v1) (y2 : u.cell? p2 = some v2) (y3 : u.cell? p3 = some v3) (h : w'.cell? p0 = some v0 ∧ w'.cell? p1 = some v1 ∧ w'.cell? p2 = some v2 ∧ w'.cell? p3 = some v3 ∧ Below u.heap.size u w') (b : Below w'.heap.size w' w'') : w''.cell? p0 = some v0 ∧ w''.cell? p1 = some v1 ∧ w''.cell? p2 = some v2 ∧ w''.cell? p3 = some v3 ∧ Below u.heap.size u w'' := by
  have B := h.2.2.2.2.trans (b.mono h.2.2.2.2.size)
  exact ⟨(cell_on y0 B), (cell_on y1 B), (cell_on y2 B), (cell_on y3 B), B⟩

set_option maxHeartbeats 2000000 in
theorem eqProbeS_any (a b : Option Addr) (ca cb : Nat) (ps : List (Int × Int)) (w : World) (ha : RowV w a (pvals ps)) (hb : RowV w b (pvals ps)) (hn : ps.length ≤ maxLen) :
    Calls Try.prog 41 #[.slice a ps.length ca, .slice b ps.length cb] w fun e w' => e = .returned (.bool true) ∧ Below w.heap.size w w' := by
  unfold maxLen at hn
  generalize hlen : ps.length = n at hn ⊢
  have HL := Lib.hid hlen; clear hlen
  go_enter Try.func41, Try.ntmps41
  go_wp2
  go_loopw [5] (fun i wr => ∃ k : Nat, k ≤ n ∧ i = .int .i64 k ∧ Below w.heap.size w wr) (fun i _ => n - (intOf i).toNat)
  case atStart => exact ⟨0, Nat.zero_le _, rfl, Below.refl _ _⟩
  case round =>
    obtain ⟨k, hk, rfl, hbel⟩ := hrel
    have HW := Lib.hid hbel; clear hbel
    by_cases hlt : k < n
    · have hx := pvals_get (ps := ps) (k := k) (by rw [HL.out]; exact hlt)
      obtain ⟨b1, o1, rfl, d0⟩ := ha _ _ hx.1
      obtain ⟨b1', o1', e1', d1⟩ := ha _ _ hx.2
      cases e1'
      obtain ⟨b2, o2, rfl, d2⟩ := hb _ _ hx.1
      obtain ⟨b2', o2', e2', d3⟩ := hb _ _ hx.2
      cases e2'
      have c0 : wr.cell? ⟨b1, o1 + k * 2, none⟩ = _ := (Below.cell HW.out (p := ⟨b1, o1 + k * 2, none⟩) (lt_of_cell d0)).trans d0
      have c1 : wr.cell? ⟨b1, o1 + k * 2 + 1, none⟩ = _ := (Below.cell HW.out (p := ⟨b1, o1 + (k * 2 + 1), none⟩) (lt_of_cell d1)).trans d1
      have c2 : wr.cell? ⟨b2, o2 + k * 2, none⟩ = _ := (Below.cell HW.out (p := ⟨b2, o2 + k * 2, none⟩) (lt_of_cell d2)).trans d2
      have c3 : wr.cell? ⟨b2, o2 + k * 2 + 1, none⟩ = _ := (Below.cell HW.out (p := ⟨b2, o2 + (k * 2 + 1), none⟩) (lt_of_cell d3)).trans d3
      clear d0 d1 d2 d3 hx ha hb
      generalize (ps[k]'(by rw [HL.out]; exact hlt)).1 = x at *
      generalize (ps[k]'(by rw [HL.out]; exact hlt)).2 = y at *
      have hki : ((k : Nat) : Int) < (n : Int) := by omega
      go_wp2_with fail
      go_region_held3 (fun w' => w'.cell? ⟨b1, o1 + k * 2, none⟩ = some (.int .i64 x) ∧ w'.cell? ⟨b1, o1 + k * 2 + 1, none⟩ = some (.int .i64 y) ∧ w'.cell? ⟨b2, o2 + k * 2, none⟩ = some (.int .i64 x) ∧ w'.cell? ⟨b2, o2 + k * 2 + 1, none⟩ = some (.int .i64 y) ∧ Below wr.heap.size wr w') (first | with_reducible exact keep0c4_start c0 c1 c2 c3 | with_reducible exact keep0c4_later c0 c1 c2 c3 (by assumption) (by assumption))
        ((go_at_call 82; (with_reducible refine (eqProbe_any _ _ _).mono ?_); rintro r v2 ⟨rfl, qa⟩))
      have q := (below_next (below_drew wr) qa)
      clear qa
      replace HW := Lib.hid (HW.out.trans (q.mono HW.out.size))
      go_wp2
      go_roundw
      case rel => exact ⟨k + 1, by omega, by go_num, HW.out⟩
      case measure => simp [intOf]; omega
    · obtain rfl : k = n := by omega
      go_wp2
      go_ret
      exact ⟨rfl, HW.out⟩

end Go.Proofs.Ytkcododhfliobaa

end

section

namespace Go.Proofs.Ytkcododhfliobaa
open Go Ieee Go.RowKit
set_option linter.unusedVariables false

def probesB (wd hi : Int) (ps : List (Int × Int)) : Bool := decide (ps.length ≤ 8) && ps.all (fun p => cellB wd hi p.1 p.2)

theorem probes_long {wd hi : Int} {ps : List (Int × Int)} (h : ¬ ps.length ≤ 8) : probesB wd hi ps = false := by unfold probesB; rw [decide_eq_false h]; rfl
theorem probes_all {wd hi : Int} {ps : List (Int × Int)} (h : ps.length ≤ 8) (a : ∀ j (hj : j < ps.length), cellB wd hi ps[j].1 ps[j].2 = true) : probesB wd hi ps = true := by
  unfold probesB; rw [decide_eq_true h, all_of (p := fun p : Int × Int => cellB wd hi p.1 p.2) a]; rfl
theorem probes_not {wd hi : Int} {ps : List (Int × Int)} (k : Nat) (hk : k < ps.length) (h : cellB wd hi ps[k].1 ps[k].2 = false) : probesB wd hi ps = false := by
  unfold probesB; rw [not_all (p := fun p : Int × Int => cellB wd hi p.1 p.2) k hk h]; simp

theorem quietCell (g : Nat) (wd hi x y : Int) (wb : Bool) (v3 v4 : Value) (c : Bool) (w : World) (n : Nat) (hc : cellB wd hi x y = c) (X : Blk w g #[.int .i64 wd, .int .i64 hi, .bool wb, v3, v4] 52) (s1 : 3 ≤ wd) (s2 : wd ≤ 16) (s3 : 3 ≤ hi) (s4 : hi ≤ 16) :
    Calls Try.prog 87 #[.pointer (some ⟨g, 0, none⟩), .int .i64 x, .int .i64 y] (w.drewN n) fun e w'' => e = .returned (.bool c) ∧ ∃ m, w'' = w.drewN m := by
  subst hc
  exact quietS (specCell g wd hi x y wb v3 v4 _ (X.drewN _) s1 s2 s3 s4)

set_option maxHeartbeats 2000000 in
theorem specProbesOf (g : Nat) (wd hi : Int) (wb : Bool) (v3 v4 : Value) (a : Option Addr) (ca : Nat) (ps : List (Int × Int)) (w : World) (X : Blk w g #[.int .i64 wd, .int .i64 hi, .bool wb, v3, v4] 52) (s1 : 3 ≤ wd) (s2 : wd ≤ 16) (s3 : 3 ≤ hi) (s4 : hi ≤ 16) (ha : RowV w a (pvals ps)) (hn : ps.length ≤ maxLen) :
    Calls Try.prog 79 #[.pointer (some ⟨g, 0, none⟩), .slice a ps.length ca] w fun e w' => e = .returned (.bool (probesB wd hi ps)) ∧ ∃ n, w' = w.drewN n := by
  unfold maxLen at hn
  by_cases h8 : ps.length ≤ 8
  rotate_left
  · have hb : (8 : Int) < (ps.length : Int) := by omega
    rw [probes_long h8]
    go_enter Try.func79, Try.ntmps79
    go_wp2
    go_ret
    exact ⟨rfl, 0, rfl⟩
  have HT : Hid ((∀ j (hj : j < ps.length), cellB wd hi ps[j].1 ps[j].2 = true) → probesB wd hi ps = true) := Lib.hid (probes_all h8)
  have HF : Hid (∀ k, (hk : k < ps.length) → cellB wd hi ps[k].1 ps[k].2 = false → probesB wd hi ps = false) := Lib.hid (fun k hk h => probes_not k hk h)
  generalize probesB wd hi ps = rb at *
  generalize hlen : ps.length = n at hn h8 ⊢
  have HL := Lib.hid hlen; clear hlen
  have hn8 : (n : Int) ≤ 8 := by omega
  go_enter Try.func79, Try.ntmps79
  go_wp2
  go_loopw [5] (fun i wr => ∃ k : Nat, k ≤ n ∧ i = .int .i64 k ∧ (∀ j (hj : j < ps.length), j < k → cellB wd hi ps[j].1 ps[j].2 = true) ∧ ∃ m, wr = w.drewN m) (fun i _ => n - (intOf i).toNat)
  case atStart => exact ⟨0, Nat.zero_le _, rfl, fun j _ h => by omega, 0, rfl⟩
  case round =>
    obtain ⟨k, hk, rfl, hall, m, hw⟩ := hrel
    have XR : Blk wr g #[.int .i64 wd, .int .i64 hi, .bool wb, v3, v4] 52 := by rw [hw]; exact X.drewN m
    have HW := Lib.hid hw; clear hw
    have HA := Lib.hid hall; clear hall
    by_cases hlt : k < n
    · have k1 : k < ps.length := by rw [HL.out]; exact hlt
      have hx := pvals_get k1
      obtain ⟨b1, o1, rfl, c0⟩ := ha _ _ hx.1
      obtain ⟨b1', o1', e1', c1⟩ := ha _ _ hx.2
      cases e1'
      replace c0 : wr.cell? ⟨b1, o1 + k * 2, none⟩ = some (.int .i64 ps[k].1) := (by rw [HW.out]; exact c0)
      replace c1 : wr.cell? ⟨b1, o1 + k * 2 + 1, none⟩ = some (.int .i64 ps[k].2) := (by rw [HW.out]; exact c1)
      have hki : ((k : Nat) : Int) < (n : Int) := by omega
      have HNext : Hid (cellB wd hi ps[k].1 ps[k].2 = true → ∀ j (hj : j < ps.length), j < k + 1 → cellB wd hi ps[j].1 ps[j].2 = true) := Lib.hid (fun h j hj hjk => by
        by_cases e : j = k
        · subst e; exact h
        · exact HA.out j hj (by omega))
      have HStop : Hid (cellB wd hi ps[k].1 ps[k].2 = false → rb = false) := Lib.hid (HF.out k k1)
      clear hx ha HF HA
      generalize ps[k].1 = x at *
      generalize ps[k].2 = y at *
      rcases hc : cellB wd hi x y with _ | _
      · obtain rfl := HStop.out hc
        have HCX := Lib.hid hc; clear hc
        go_wp2
        go_quiet ((go_at_call 87; exact quietCell g wd hi x y wb v3 v4 _ _ _ HCX.out XR s1 s2 s3 s4))
        go_wp2
        go_ret
        exact ⟨rfl, _, by rw [HW.out]; exact World.drewN_drewN ..⟩
      · have HN := Lib.hid (HNext.out hc)
        have HCX := Lib.hid hc; clear hc HNext
        go_wp2
        go_quiet ((go_at_call 87; exact quietCell g wd hi x y wb v3 v4 _ _ _ HCX.out XR s1 s2 s3 s4))
        go_wp2
        go_roundw
        case rel => exact ⟨k + 1, by omega, by go_num, HN.out, _, by rw [HW.out]; exact World.drewN_drewN ..⟩
        case measure => simp [intOf]; omega
    · obtain rfl : k = n := by omega
      obtain rfl := HT.out (fun j hj => HA.out j hj (by rw [← HL.out]; exact hj))
      go_wp2
      go_ret
      exact ⟨rfl, _, HW.out⟩

set_option maxHeartbeats 2000000 in
theorem specAreProbes (wd hi : Int) (wb : Bool) (a b : Option Addr) (ca cb : Nat) (xs ys : List Nat) (p : Option Addr) (cp : Nat) (ps : List (Int × Int)) (w : World) (ha : RowV w a (fvals xs)) (hb : RowV w b (fvals ys)) (hx : xs.length ≤ maxLen) (hy : ys.length ≤ maxLen) (hp : RowV w p (pvals ps)) (hn : ps.length ≤ maxLen) :
    Calls Try.prog 38 #[.agg #[.int .i64 wd, .int .i64 hi, .bool wb, .slice a xs.length ca, .slice b ys.length cb], .slice p ps.length cp] w fun e w' => e = .returned (.bool (validB wd hi xs ys && probesB wd hi ps)) ∧ Below w.heap.size w w' := by
  rcases hv : validB wd hi xs ys with _ | _
  · skip
    have HV := Lib.hid hv; clear hv
    have X := Blk.new w #[.int .i64 wd, .int .i64 hi, .bool wb, .slice a xs.length ca, .slice b ys.length cb] 52
    have HB : Hid (Below w.heap.size w (w.alloc (.cells #[.int .i64 wd, .int .i64 hi, .bool wb, .slice a xs.length ca, .slice b ys.length cb] 52))) := Lib.hid ((Below.refl w.heap.size w).alloc (by simp <;> omega) _)
    go_enter Try.func38, Try.ntmps38
    go_wp2_with fail
    generalize (w.alloc (.cells #[.int .i64 wd, .int .i64 hi, .bool wb, .slice a xs.length ca, .slice b ys.length cb] 52)) = u1 at *
    refine (specIs _ _ _ _ _ _ _ _ _ _ _ X (ha.later HB.out) (hb.later HB.out) hx hy).mono ?_
    rintro r u2 ⟨rfl, nq, hw⟩
    have q : Below u1.heap.size u1 u2 := by rw [hw]; exact below_drewN (Below.refl _ _) _
    clear hw
    replace X := X.later q
    replace HB := Lib.hid (HB.out.trans (q.mono HB.out.size))
    clear q
    rw [HV.out]
    obtain ⟨Xc, Xf⟩ := X.open
    go_wp2
    go_ret
    exact ⟨rfl, HB.out⟩
  obtain ⟨s1, s2, s3, s4, t1, t2⟩ := sides_mul (valid_sides hv)
  have HV := Lib.hid hv; clear hv t1 t2
  have X := Blk.new w #[.int .i64 wd, .int .i64 hi, .bool wb, .slice a xs.length ca, .slice b ys.length cb] 52
  have HB : Hid (Below w.heap.size w (w.alloc (.cells #[.int .i64 wd, .int .i64 hi, .bool wb, .slice a xs.length ca, .slice b ys.length cb] 52))) := Lib.hid ((Below.refl w.heap.size w).alloc (by simp <;> omega) _)
  go_enter Try.func38, Try.ntmps38
  go_wp2_with fail
  generalize (w.alloc (.cells #[.int .i64 wd, .int .i64 hi, .bool wb, .slice a xs.length ca, .slice b ys.length cb] 52)) = u1 at *
  refine (specIs _ _ _ _ _ _ _ _ _ _ _ X (ha.later HB.out) (hb.later HB.out) hx hy).mono ?_
  rintro r u2 ⟨rfl, nq, hw⟩
  have q : Below u1.heap.size u1 u2 := by rw [hw]; exact below_drewN (Below.refl _ _) _
  clear hw
  replace X := X.later q
  replace HB := Lib.hid (HB.out.trans (q.mono HB.out.size))
  clear q
  rw [HV.out]
  obtain ⟨Xc, Xf⟩ := X.open
  go_wp2_with fail
  refine (specProbesOf _ _ _ _ _ _ _ _ _ _ X s1 s2 s3 s4 (hp.later HB.out) hn).mono ?_
  rintro r u3 ⟨rfl, nr, hw⟩
  have q : Below u2.heap.size u2 u3 := by rw [hw]; exact below_drewN (Below.refl _ _) _
  clear hw
  clear Xc Xf
  replace X := X.later q
  replace HB := Lib.hid (HB.out.trans (q.mono HB.out.size))
  clear q
  go_wp2
  go_ret
  exact ⟨rfl, HB.out⟩

theorem probePlace (x y : Int) (w : World) : Calls Try.prog 81 #[.agg #[.int .i64 x, .int .i64 y]] w fun e w' => e = .returned (.agg #[.int .i64 x, .int .i64 y]) ∧ Below w.heap.size w w' := by
  go_enter Try.func81, Try.ntmps81
  go_wp2
  refine bodyPost_ret (v := .agg #[.int .i64 x, .int .i64 y]) (by simp [results, Try.results81, go_sem]) rfl ⟨rfl, ?_⟩
  exact ((Below.refl w.heap.size w).alloc (Nat.le_refl _) _).alloc (by simp) _

set_option maxHeartbeats 4000000 in
set_option maxRecDepth 100000 in
theorem implAreProbes (wd hi : Int) (wb : Bool) (a b : Option Addr) (ca cb : Nat) (xs ys : List Nat) (p : Option Addr) (cp : Nat) (ps : List (Int × Int)) (w : World) (ha : RowV w a (fvals xs)) (hb : RowV w b (fvals ys)) (hx : xs.length ≤ maxLen) (hy : ys.length ≤ maxLen) (hp : RowV w p (pvals ps)) (hn : ps.length ≤ maxLen) :
    Calls Try.prog 40 #[.agg #[.int .i64 wd, .int .i64 hi, .bool wb, .slice a xs.length ca, .slice b ys.length cb], .slice p ps.length cp] w fun e w' => e = .returned (.bool (validB wd hi xs ys && probesB wd hi ps)) ∧ Below w.heap.size w w' := by
  rcases hv : validB wd hi xs ys with _ | _
  · skip
    have HV := Lib.hid hv; clear hv
    have X := Blk.new w #[.int .i64 wd, .int .i64 hi, .bool wb, .slice a xs.length ca, .slice b ys.length cb] 52
    have HB : Hid (Below w.heap.size w (w.alloc (.cells #[.int .i64 wd, .int .i64 hi, .bool wb, .slice a xs.length ca, .slice b ys.length cb] 52))) := Lib.hid ((Below.refl w.heap.size w).alloc (by simp <;> omega) _)
    go_enter Try.func40, Try.ntmps40
    go_wp2_with fail
    generalize (w.alloc (.cells #[.int .i64 wd, .int .i64 hi, .bool wb, .slice a xs.length ca, .slice b ys.length cb] 52)) = u1 at *
    refine (implValidSheet _ _ _ _ _ _ _ _ _ _ (ha.later HB.out) (hb.later HB.out) hx hy).mono ?_
    rintro r u2 ⟨rfl, q⟩
    replace X := X.later q
    replace HB := Lib.hid (HB.out.trans (q.mono HB.out.size))
    clear q
    rw [HV.out]
    obtain ⟨Xc, Xf⟩ := X.open
    go_wp2
    go_ret
    exact ⟨rfl, HB.out⟩
  obtain ⟨s1, s2, s3, s4, t1, t2⟩ := sides_mul (valid_sides hv)
  have HV := Lib.hid hv; clear hv t1 t2
  unfold maxLen at hn
  by_cases h8 : ps.length ≤ 8
  rotate_left
  · skip
    rw [probes_long h8]
    have h8b : (8 : Int) < (ps.length : Int) := by omega
    have X := Blk.new w #[.int .i64 wd, .int .i64 hi, .bool wb, .slice a xs.length ca, .slice b ys.length cb] 52
    have HB : Hid (Below w.heap.size w (w.alloc (.cells #[.int .i64 wd, .int .i64 hi, .bool wb, .slice a xs.length ca, .slice b ys.length cb] 52))) := Lib.hid ((Below.refl w.heap.size w).alloc (by simp <;> omega) _)
    go_enter Try.func40, Try.ntmps40
    go_wp2_with fail
    generalize (w.alloc (.cells #[.int .i64 wd, .int .i64 hi, .bool wb, .slice a xs.length ca, .slice b ys.length cb] 52)) = u1 at *
    refine (implValidSheet _ _ _ _ _ _ _ _ _ _ (ha.later HB.out) (hb.later HB.out) hx hy).mono ?_
    rintro r u2 ⟨rfl, q⟩
    replace X := X.later q
    replace HB := Lib.hid (HB.out.trans (q.mono HB.out.size))
    clear q
    rw [HV.out]
    obtain ⟨Xc, Xf⟩ := X.open
    go_wp2
    go_ret
    exact ⟨rfl, HB.out⟩
  have HT : Hid ((∀ j (hj : j < ps.length), cellB wd hi ps[j].1 ps[j].2 = true) → probesB wd hi ps = true) := Lib.hid (probes_all h8)
  have HF : Hid (∀ k, (hk : k < ps.length) → cellB wd hi ps[k].1 ps[k].2 = false → probesB wd hi ps = false) := Lib.hid (fun k hk h => probes_not k hk h)
  generalize probesB wd hi ps = rb at *
  generalize hlen : ps.length = n at hn h8 ⊢
  have HL := Lib.hid hlen; clear hlen
  have hn8 : (n : Int) ≤ 8 := by omega
  have X := Blk.new w #[.int .i64 wd, .int .i64 hi, .bool wb, .slice a xs.length ca, .slice b ys.length cb] 52
  have HB : Hid (Below w.heap.size w (w.alloc (.cells #[.int .i64 wd, .int .i64 hi, .bool wb, .slice a xs.length ca, .slice b ys.length cb] 52))) := Lib.hid ((Below.refl w.heap.size w).alloc (by simp <;> omega) _)
  go_enter Try.func40, Try.ntmps40
  go_wp2_with fail
  generalize (w.alloc (.cells #[.int .i64 wd, .int .i64 hi, .bool wb, .slice a xs.length ca, .slice b ys.length cb] 52)) = u1 at *
  refine (implValidSheet _ _ _ _ _ _ _ _ _ _ (ha.later HB.out) (hb.later HB.out) hx hy).mono ?_
  rintro r u2 ⟨rfl, q⟩
  replace X := X.later q
  replace HB := Lib.hid (HB.out.trans (q.mono HB.out.size))
  clear q
  rw [HV.out]
  obtain ⟨Xc, Xf⟩ := X.open
  go_wp2_with fail
  refine (implShapeOf _ _ _ _ _ _ _ _ _ _).mono ?_
  rintro r u3 ⟨rfl, q⟩
  clear Xc Xf
  replace X := X.later q
  replace HB := Lib.hid (HB.out.trans (q.mono HB.out.size))
  clear q
  have Z := Blk.new u3 #[.int .i64 wd, .int .i64 hi, .bool wb] 101
  have q := below_new u3 (.cells #[.int .i64 wd, .int .i64 hi, .bool wb] 101)
  replace X := X.later q
  replace HB := Lib.hid (HB.out.trans (q.mono HB.out.size))
  clear q
  obtain ⟨Zc, Zf⟩ := Z.open
  go_wp2_with fail
  generalize (u3.alloc (.cells #[.int .i64 wd, .int .i64 hi, .bool wb] 101)) = u4 at *
  have hzb : u3.heap.size < u4.heap.size := Z.lt
  go_loopw [7, 20] (fun _ i wr => ∃ k : Nat, k ≤ n ∧ i = .int .i64 k ∧ (∀ j (hj : j < ps.length), j < k → cellB wd hi ps[j].1 ps[j].2 = true) ∧ Below u4.heap.size u4 wr) (fun _ i _ => n - (intOf i).toNat)
  case atStart => exact ⟨0, Nat.zero_le _, rfl, fun j _ h => by omega, Below.refl _ _⟩
  case round =>
    obtain ⟨k, hk, rfl, hall, hbel⟩ := hrel
    have HA := Lib.hid hall; clear hall
    clear Zc Zf
    replace Z := Z.later hbel
    replace HB := Lib.hid (HB.out.trans (hbel.mono HB.out.size))
    by_cases hlt : k < n
    · skip
      have k1 : k < ps.length := by rw [HL.out]; exact hlt
      have hx9 := pvals_get k1
      obtain ⟨b1, o1, rfl, d0⟩ := hp _ _ hx9.1
      obtain ⟨b1', o1', e1', d1⟩ := hp _ _ hx9.2
      cases e1'
      have c0 : wr.cell? ⟨b1, o1 + k * 2, none⟩ = _ := (Below.cell HB.out (p := ⟨b1, o1 + k * 2, none⟩) (lt_of_cell d0)).trans d0
      have c1 : wr.cell? ⟨b1, o1 + k * 2 + 1, none⟩ = _ := (Below.cell HB.out (p := ⟨b1, o1 + (k * 2 + 1), none⟩) (lt_of_cell d1)).trans d1
      have hki : ((k : Nat) : Int) < (n : Int) := by omega
      have HNext : Hid (cellB wd hi ps[k].1 ps[k].2 = true → ∀ j (hj : j < ps.length), j < k + 1 → cellB wd hi ps[j].1 ps[j].2 = true) := Lib.hid (fun h j hj hjk => by
        by_cases e : j = k
        · subst e; exact h
        · exact HA.out j hj (by omega))
      have HStop : Hid (cellB wd hi ps[k].1 ps[k].2 = false → rb = false) := Lib.hid (HF.out k k1)
      clear hx9 d0 d1 HA
      generalize ps[k].1 = x at *
      generalize ps[k].2 = y at *
      have Y := Blk.new wr #[.int .i64 x, .int .i64 y] 110
      have q0 := below_new wr (.cells #[.int .i64 x, .int .i64 y] 110)
      replace Z := Z.later q0
      replace HB := Lib.hid (HB.out.trans (q0.mono HB.out.size))
      have hb2 := hbel.trans (q0.mono hbel.size)
      have HB2 := Lib.hid hb2; clear hb2 hbel q0
      rcases hc : cellB wd hi x y with _ | _
      · skip
        obtain rfl := HStop.out hc
        have HCX := Lib.hid hc; clear hc HNext HStop
        go_upto_region 7 with (fail)
        generalize wr.alloc (.cells #[.int .i64 x, .int .i64 y] 110) = v0 at *
        go_region_held3 (fun w' => (∀ i, w'.cell? ⟨u3.heap.size, i, none⟩ = (#[.int .i64 wd, .int .i64 hi, .bool wb] : Array Value)[i]?) ∧ (∀ i, w'.cell? ⟨wr.heap.size, i, none⟩ = (#[.int .i64 x, .int .i64 y] : Array Value)[i]?) ∧ Below v0.heap.size v0 w') (first | with_reducible exact keep2_start Z Y | with_reducible exact keep2_later Z Y (by assumption) (by assumption))
          (first | (go_at_call 81; (with_reducible refine (probePlace _ _ _).mono ?_); rintro r v1 ⟨rfl, qa⟩) | (go_at_call 75; (with_reducible refine (implHas _ _ _ _ _ _ s1 s2 s3 s4).mono ?_); rintro r v2 ⟨rfl, qb⟩))
        have q := (below_next (below_next (below_drew v0) qa) qb)
        clear qa qb
        replace HB := Lib.hid (HB.out.trans (q.mono HB.out.size))
        replace HB2 := Lib.hid (HB2.out.trans (q.mono HB2.out.size))
        rw [HCX.out]
        go_wp2
        go_ret
        exact ⟨rfl, HB.out⟩
      · skip
        have HN := Lib.hid (HNext.out hc)
        have HCX := Lib.hid hc; clear hc HNext HStop
        go_upto_region 7 with (fail)
        generalize wr.alloc (.cells #[.int .i64 x, .int .i64 y] 110) = v0 at *
        go_region_held3 (fun w' => (∀ i, w'.cell? ⟨u3.heap.size, i, none⟩ = (#[.int .i64 wd, .int .i64 hi, .bool wb] : Array Value)[i]?) ∧ (∀ i, w'.cell? ⟨wr.heap.size, i, none⟩ = (#[.int .i64 x, .int .i64 y] : Array Value)[i]?) ∧ Below v0.heap.size v0 w') (first | with_reducible exact keep2_start Z Y | with_reducible exact keep2_later Z Y (by assumption) (by assumption))
          (first | (go_at_call 81; (with_reducible refine (probePlace _ _ _).mono ?_); rintro r v1 ⟨rfl, qa⟩) | (go_at_call 75; (with_reducible refine (implHas _ _ _ _ _ _ s1 s2 s3 s4).mono ?_); rintro r v2 ⟨rfl, qb⟩))
        have q := (below_next (below_next (below_drew v0) qa) qb)
        clear qa qb
        replace HB := Lib.hid (HB.out.trans (q.mono HB.out.size))
        replace HB2 := Lib.hid (HB2.out.trans (q.mono HB2.out.size))
        rw [HCX.out]
        go_wp2
        go_roundw
        case rel => exact ⟨k + 1, by omega, by go_num, HN.out, HB2.out⟩
        case measure => simp [intOf]; omega
    · skip
      obtain rfl : k = n := by omega
      obtain rfl := HT.out (fun j hj => HA.out j hj (by rw [← HL.out]; exact hj))
      go_wp2
      go_ret
      exact ⟨rfl, HB.out⟩

end Go.Proofs.Ytkcododhfliobaa

end

section

namespace Go.Proofs.Ytkcododhfliobaa
open Go Ieee Go.RowKit Go.Deep Go.ChangeShapes Go.WideShapes
set_option linter.unusedVariables false

theorem addr_add (b off k : Nat) : (⟨b, off, none⟩ : Addr).add k = ⟨b, off + k, none⟩ := by
  unfold Addr.add
  by_cases h : k = 0 <;> simp [h]

theorem open_ProbeS {H : Type} {enc : TypeId × Value → H} {W : World} {base : Nat} {spare : Nat → Bool} {held : Bool} {a : Option Addr} {len cap : Nat} {d : DataW H} {ps : List MemPlace} (h : DataW.Trod enc Try.prog W base spare held 59 (.slice a len cap) d ps) :
    ∃ xs : List (Int × Int), len = xs.length ∧ RowV W a (pvals xs) ∧ len ≤ maxLen := by
  have hC : Try.prog.cellsOf 112 = 2 := by kernel_rfl
  obtain ⟨fuel, hf⟩ := h
  rcases Deep.open_slice Try.underlying59 hf with ⟨hcs, _⟩ | ⟨x, l, c, m, n, D, Pl, hcs, _, hl, hm, hmm, _, hx⟩
  · simp [Value.cells] at hcs
    obtain ⟨rfl, rfl, rfl⟩ := hcs
    exact ⟨[], rfl, (fun i u hu => by simp [pvals] at hu), (by unfold maxLen; omega)⟩
  · simp [Value.cells] at hcs
    obtain ⟨rfl, rfl, rfl⟩ := hcs
    have hlm : len ≤ m := by rw [hmm]; split <;> omega
    have each : ∀ i, i < len → ∃ q : Int × Int, W.cell? ((x.add (i * 2)).add 0) = some (.int .i64 q.1) ∧ W.cell? ((x.add (i * 2)).add 1) = some (.int .i64 q.2) := fun i hi => by
      obtain ⟨cs', h1, h2⟩ := hx i (by omega)
      rw [hC] at h1
      obtain ⟨_, hlen, hc⟩ := World.cells?_some h1
      obtain ⟨v0, y0, n0, e0, t0⟩ := field_trod Try.underlying112 (by kernel_rfl) hC h2 0 _ rfl
      obtain ⟨v1, y1, n1, e1, t1⟩ := field_trod Try.underlying112 (by kernel_rfl) hC h2 1 _ rfl
      obtain ⟨p, rfl, _⟩ := int_field Try.underlying2 t0
      obtain ⟨q, rfl, _⟩ := int_field Try.underlying2 t1
      exact ⟨(p, q), (hc 0 (by omega)).trans e0, (hc 1 (by omega)).trans e1⟩
    obtain ⟨f, hf'⟩ := Deep.choose_lt each
    refine ⟨(List.range len).map f, (by simp), ?_, (by omega)⟩
    intro i u hu
    have hi : i < len * 2 := by
      have := (List.getElem?_eq_some_iff.1 hu).1
      rw [pvals_length] at this; simpa using this
    have hk : i / 2 < len := by omega
    obtain ⟨b, off, spot⟩ := x
    have hs : spot = none := by simpa [Addr.add] using World.cell?_spot (hf' 0 (by omega)).1
    subst hs
    have hg := pvals_get (ps := (List.range len).map f) (k := i / 2) (by simpa using hk)
    obtain ⟨g0, g1⟩ := hf' (i / 2) hk
    rw [addr_add, addr_add] at g0 g1
    simp only [List.getElem_map, List.getElem_range] at hg
    refine ⟨b, off, rfl, ?_⟩
    rcases Nat.mod_two_eq_zero_or_one i with e | e
    · have ei : i / 2 * 2 = i := by omega
      rw [ei] at hg g0
      rw [hg.1] at hu; cases hu
      exact g0
    · have ei : i / 2 * 2 + 1 = i := by omega
      rw [ei] at hg
      rw [Nat.add_assoc, ei] at g1
      rw [hg.2] at hu; cases hu
      exact g1

end Go.Proofs.Ytkcododhfliobaa

end
