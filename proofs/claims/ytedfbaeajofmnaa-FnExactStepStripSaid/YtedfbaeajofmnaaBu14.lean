/- Several texts in one: facts on floats, lists, memory and the functions that the theorems beside this text use. Conditions: none beyond those of each theorem. -/
import Derived.Test.YtedfbaeajofmnaaBu7
import Derived.Test.YtedfbaeajofmnaaBu5
import Derived.Deep.RegionHeld3
import Derived.Deep.AppendLies
import Derived.Test.YtedfbaeajofmnaaBu2

set_option linter.unusedVariables false

section

namespace Go.Proofs.Ytedfbaeajofmnaa
open Go Ieee Go.RowKit
set_option linter.unusedVariables false

structure GotList (B : Nat) (w w' : World) (m : List (Option Nat)) (a : Option Addr) (y : List Nat) : Prop where
  o : OwnV w' B a (fvals y)
  s : Is y m
  below : Below B w w'

theorem GotList.none {B : Nat} {w w' : World} (b : Below B w w') : GotList B w w' [] none [] := ⟨nil_own _ _, Is.nil, b⟩

def GaveL (w : World) (b : Bool) (z : List Nat) (r : Ending) (w' : World) : Prop :=
  ∃ (a : Option Addr) (c : Nat) (y : List Nat), r = .returned (.tuple #[.slice a y.length c, .bool b]) ∧ GotList w.heap.size w w' (ifL b z) a y

theorem implIndexQ0 (wd hi x y : Int) (wb : Bool) (q : Nat) (w : World) (hq : Hid (x + wd * y = (q : Int))) (k1 : 0 ≤ wd * y) (k2 : wd * y ≤ 256) (k3 : 0 ≤ x) (k4 : x ≤ 256) : Calls Try.prog 117 #[.agg #[.int .i64 wd, .int .i64 hi, .bool wb], .agg #[.int .i64 x, .int .i64 y]] w fun e w' => e = .returned (.int .i64 (q : Int)) ∧ Below w.heap.size w w' :=
  (implIndexOf wd hi x y wb w k1 k2 k3 k4).mono fun e w' ⟨h, b⟩ => ⟨by rw [h, hq.out], b⟩

set_option maxHeartbeats 4000000 in
theorem specBoth (g gf : Nat) (wd hi : Int) (wb : Bool) (a b : Option Addr) (ca cb : Nat) (xs ys : List Nat) (a0 a1 a2 : Option Addr) (c0 c1 c2 : Nat) (e x y : List Nat) (w : World) (hg : Blk w g #[.int .i64 wd, .int .i64 hi, .bool wb, .slice a xs.length ca, .slice b ys.length cb] 29) (hgf : Blk w gf #[.slice a0 e.length c0, .slice a1 x.length c1, .slice a2 y.length c2] 38) (ha : RowV w a (fvals xs)) (hb : RowV w b (fvals ys)) (hx : xs.length ≤ maxLen) (hy : ys.length ≤ maxLen) (h0 : RowV w a0 (fvals e)) (h1 : RowV w a1 (fvals x)) (h2 : RowV w a2 (fvals y)) (m0 : e.length ≤ maxLen) (m1 : x.length ≤ maxLen) (m2 : y.length ≤ maxLen) :
    Calls Try.prog 60 #[.pointer (some ⟨g, 0, none⟩), .pointer (some ⟨gf, 0, none⟩)] w fun r w' => r = .returned (.bool (fieldB wd hi wb xs ys e x y)) ∧ ∃ n, w' = w.drewN n := by
  have hfb : fieldB wd hi wb xs ys e x y = (validB wd hi xs ys && fitsB wd hi wb e x y) := rfl
  rw [hfb]; clear hfb
  rcases hs : validB wd hi xs ys with _ | _
  · skip
    have H_hs := Lib.hid hs; clear hs
    go_enter Try.func60, Try.ntmps60
    go_wp2_with fail
    refine (specIs _ _ _ _ _ _ _ _ _ _ _ hg ha hb hx hy).mono ?_
    rintro r w' ⟨rfl, nq, hw⟩
    rw [H_hs.out]
    go_wp2
    go_ret
    exact ⟨rfl, nq, rfl⟩
  · skip
    obtain ⟨s1, s2, s3, s4, t1, t2⟩ := sides_mul (valid_sides hs)
    have H_hs := Lib.hid hs; clear hs t1 t2
    go_enter Try.func60, Try.ntmps60
    go_wp2_with fail
    refine (specIs _ _ _ _ _ _ _ _ _ _ _ hg ha hb hx hy).mono ?_
    rintro r w' ⟨rfl, nq, hw⟩
    rw [H_hs.out]
    subst hw
    go_wp2_with fail
    refine (specFits _ _ _ _ _ _ _ _ _ _ _ _ _ _ _ _ _ _ _ _ _ (hg.drewN nq) (hgf.drewN nq) s1 s2 s3 s4 (RowV.drawn h0 nq) (RowV.drawn h1 nq) (RowV.drawn h2 nq) m0 m1 m2).mono ?_
    rintro r w' ⟨rfl, nr, hw⟩
    go_wp2
    go_ret
    exact ⟨by simp, nq + nr, rfl⟩

end Go.Proofs.Ytedfbaeajofmnaa

end

section

namespace Go.Proofs.Ytedfbaeajofmnaa
open Go Ieee Go.RowKit
set_option linter.unusedVariables false

def colB (wd hi : Int) (wb : Bool) (xs ys e x y : List Nat) (u : Int) : Bool := fieldB wd hi wb xs ys e x y && cellB wd hi u 0
def colF (wd u : Int) (i : Nat) : Nat := (u + wd * (i : Int)).toNat

theorem cellB_col {wd hi u : Int} (h : 3 ≤ hi) : cellB wd hi u 0 = decide (0 ≤ u ∧ u ≤ wd - 1) := by
  unfold cellB; rw [show decide ((0 : Int) ≤ 0 ∧ 0 ≤ hi - 1) = true from decide_eq_true (by omega), Bool.and_true]

theorem make_f32cap (n : Nat) (hn : n ≤ 1048576) (w : World) : (Instr.makeSlice 22 (.int .i64 0) (.int .i64 (n : Int))).run Try.prog w = .ok (.slice (some ⟨w.heap.size, 0, none⟩) 0 n) (w.alloc (.cells (List.replicate n (Value.float .f32 0)).toArray 102)) := by
  obtain ⟨i0, hi, hz0, hz1, hz2⟩ := info_parts Try.infoF32
  have := run_make (P := Try.prog) w 22 102 i0 (.float .f32 0) Try.underlying22 hi hz0 .i64 .i64 0 n (by omega) (by omega) (by rw [hz2]; omega) (by omega)
  rw [this, hz1, Nat.mul_one, Int.toNat_natCast]
  have e : madeCells (Value.float FloatKind.f32 0).cells n = (List.replicate n (Value.float .f32 0)).toArray := by
    apply Array.toList_inj.1
    rw [show (Value.float FloatKind.f32 0).cells = #[.float .f32 0] from rfl, toList_madeCells_one]
  rw [e]; rfl

theorem outs_cap (w : World) (n : Nat) (hn : n ≤ 1048576) : Outs w (w.alloc (.cells (List.replicate n (Value.float .f32 0)).toArray 102)) (.slice (some ⟨w.heap.size, 0, none⟩) 0 n) 0 [] :=
  ⟨rfl, World.ownsRow_made w _ n (Nat.le_refl _) (by unfold maxLen; omega) (by simp), (Below.refl _ _).alloc (Nat.le_refl _) _⟩

theorem grown_of_below {w w' : World} (b : Below w.heap.size w w') : w.grownBy w' none := ⟨b.os, b.tape, b.output, b.size, fun k hk _ => b.block k hk⟩

theorem outs_later {w wr w1 : World} {v : Value} {n : Nat} {zs : List Nat} (h : Outs w wr v n zs) (b : Below wr.heap.size wr w1) : Outs w w1 v n zs :=
  ⟨h.1, h.2.1.kept (grown_of_below b) (Classical.em _), h.2.2.trans (b.mono h.2.2.size)⟩

theorem keepB2c1 {u w' : World} {g0 g1 : Nat} {c0 c1 : Array Value} {t0 t1 : TypeId} {p : Addr} {v : Value} (x0 : Blk u g0 c0 t0) (x1 : Blk u g1 c1 t1) (y0 : u.cell? p = some v) (b : Below u.heap.size u w') : (∀ i, w'.cell? ⟨g0, i, none⟩ = c0[i]?) ∧ (∀ i, w'.cell? ⟨g1, i, none⟩ = c1[i]?) ∧ w'.cell? p = some v ∧ Below u.heap.size u w' :=
  ⟨(x0.below b x0.lt).open.1, (x1.below b x1.lt).open.1, cell_on y0 b, b⟩

end Go.Proofs.Ytedfbaeajofmnaa

end

section

namespace Go.Proofs.Ytedfbaeajofmnaa
open Go Ieee Go.RowKit
set_option linter.unusedVariables false

def marksI (k : Int) (n : Nat) : List Int := (List.range n).map fun (i : Nat) => k + (i : Int)
theorem marksI_length (k : Int) (n : Nat) : (marksI k n).length = n := by simp [marksI]
theorem marksI_get {k : Int} {n i : Nat} (h : i < n) : (ivals (marksI k n))[i]? = some (.int .i64 (k + i)) := by
  rw [ivals_get (by rw [marksI_length]; exact h)]
  simp [marksI]

def markedI (k : Int) (vs : List Value) (i : Nat) : List Value := ((ivals (marksI k vs.length)).take i) ++ vs.drop i
theorem markedI_zero (k : Int) (vs : List Value) : markedI k vs 0 = vs := by simp [markedI]
theorem markedI_all (k : Int) (vs : List Value) : markedI k vs vs.length = ivals (marksI k vs.length) := by
  unfold markedI
  rw [List.drop_length, List.append_nil, List.take_of_length_le (by rw [ivals_length, marksI_length]; exact Nat.le_refl _)]
theorem markedI_length (k : Int) (vs : List Value) (i : Nat) (h : i ≤ vs.length) : (markedI k vs i).length = vs.length := by
  unfold markedI; simp [ivals_length, marksI_length]; omega
theorem markedI_next (k : Int) (vs : List Value) (i : Nat) (h : i < vs.length) : (markedI k vs i).set i (.int .i64 (k + i)) = markedI k vs (i + 1) := by
  have hl := markedI_length k vs i (by omega)
  apply List.ext_getElem?
  intro j
  rw [List.getElem?_set]
  by_cases hj : i = j
  · subst hj
    rw [if_pos rfl, hl, if_pos h]
    unfold markedI
    rw [List.getElem?_append_left (by simp [ivals_length, marksI_length]; omega), List.getElem?_take, if_pos (by omega), marksI_get h]
  · rw [if_neg hj]
    unfold markedI
    by_cases h2 : j < i
    · rw [List.getElem?_append_left (by simp [ivals_length, marksI_length]; omega), List.getElem?_append_left (by simp [ivals_length, marksI_length]; omega), List.getElem?_take, List.getElem?_take, if_pos h2, if_pos (by omega)]
    · rw [List.getElem?_append_right (by simp [ivals_length, marksI_length]; omega), List.getElem?_append_right (by simp [ivals_length, marksI_length]; omega)]
      simp only [List.length_take, ivals_length, marksI_length, List.getElem?_drop]
      congr 1
      omega

def MarkedI (B : Nat) (a : Option Addr) (k : Int) (n : Nat) (w : World) (e : Ending) (w' : World) : Prop :=
  e = .returned (.int .i64 (k + n)) ∧ OwnV w' B a (ivals (marksI k n)) ∧ w.grownBy w' (blockOf a)

set_option maxHeartbeats 1000000 in
theorem markI (B : Nat) (a : Option Addr) (ca : Nat) (vs : List Value) (k : Int) (w : World) (hr : OwnV w B a vs) (hk : 0 ≤ k) (hn : k + vs.length ≤ 16777216) :
    Calls Try.prog 34 #[.slice a vs.length ca, .int .i64 k] w (MarkedI B a k vs.length w) := by
  rcases hr with ⟨rfl, rfl⟩ | ⟨g, cs, t, rfl, hg, hb, hv⟩
  · go_enter Try.func34, Try.ntmps34
    go_wp2
    refine wp_loop_rounds 1 ?_
    rw [rounds_succ]
    go_wp2
    go_ret
    exact ⟨by simp, .inl ⟨rfl, by simp [marksI, ivals]⟩, grown_refl _ _⟩
  · generalize hlen : vs.length = n at hn ⊢
    have HL := Lib.hid hlen
    have HV := Lib.hid hv
    clear hlen hv
    go_enter Try.func34, Try.ntmps34
    go_wp2
    go_loopw [1, 5] (fun q i wr => ∃ j : Nat, j ≤ n ∧ i = .int .i64 j ∧ q = .int .i64 (k + j) ∧ (∃ cr, Blk wr g cr t ∧ ∀ (i : Nat) (u : Value), (markedI k vs j)[i]? = some u → cr[i]? = some u) ∧ w.grownBy wr (some g)) (fun _ i _ => n - (intOf i).toNat)
    case atStart => exact ⟨0, Nat.zero_le _, rfl, by simp, ⟨cs, hb, by rw [markedI_zero]; exact HV.out⟩, grown_refl _ _⟩
    case round =>
      obtain ⟨j, hj, rfl, rfl, ⟨cr, hcr, hvr⟩, hgr⟩ := hrel
      have HVR := Lib.hid hvr
      have HGR := Lib.hid hgr
      clear hvr hgr
      by_cases hlt : j < n
      · have hml := markedI_length k vs j (by rw [HL.out]; exact hj)
        obtain ⟨old, ho⟩ : ∃ u, (markedI k vs j)[j]? = some u := ⟨_, List.getElem?_eq_getElem (by rw [hml, HL.out]; exact hlt)⟩
        have hold := HVR.out j _ ho
        have hsz : j < cr.size := (Array.getElem?_eq_some_iff.1 hold).1
        have hc := hcr.open.1 j
        have hf := hcr.open.2 j
        rw [hold] at hc
        have HM := Lib.hid (markedI_next k vs j (by rw [HL.out]; exact hlt))
        have HS := Lib.hid (hcr.set j (.int .i64 (k + j)))
        have HZ := Lib.hid hsz
        clear hold hml hsz ho
        go_wp2
        go_roundw
        case rel =>
          refine ⟨j + 1, by omega, by go_num, by go_num, ⟨_, HS.out, fun i u hu => ?_⟩, grown_set HGR.out _ _⟩
          rw [← HM.out, List.getElem?_set] at hu
          rw [Array.getElem?_setIfInBounds]
          by_cases he : j = i
          · subst he
            rw [if_pos rfl] at hu ⊢
            rw [if_pos HZ.out]
            split at hu
            · exact hu
            · cases hu
          · rw [if_neg he] at hu ⊢
            exact HVR.out i u hu
        case measure => simp [intOf]; omega
      · obtain rfl : j = n := by omega
        go_wp2
        go_ret
        refine ⟨rfl, .inr ⟨g, cr, t, rfl, hg, hcr, ?_⟩, HGR.out⟩
        have := HVR.out
        rw [← HL.out, markedI_all] at this
        rw [← HL.out]; exact this

set_option maxHeartbeats 1000000 in
theorem heldI (a : Option Addr) (ca n : Nat) (k : Int) (w : World) (hr : RowV w a (ivals (marksI k n))) (hk : 0 ≤ k) (hn : k + n ≤ 16777216) :
    Calls Try.prog 35 #[.slice a n ca, .int .i64 k] w fun e w' => e = .returned (.int .i64 (k + n)) ∧ w = w' := by
  go_enter Try.func35, Try.ntmps35
  go_wp2
  go_loop [1, 5] (fun q i => ∃ j : Nat, j ≤ n ∧ i = .int .i64 j ∧ q = .int .i64 (k + j)) (fun _ i => n - (intOf i).toNat)
  case atStart => exact ⟨0, Nat.zero_le _, rfl, by simp⟩
  case round =>
    obtain ⟨j, hj, rfl, rfl⟩ := hrel
    by_cases hlt : j < n
    · obtain ⟨b, off, rfl, hc⟩ := hr j _ (marksI_get hlt)
      go_wp2
      go_round
      case rel => exact ⟨j + 1, by omega, by go_num, by go_num⟩
      case measure => simp [intOf]; omega
    · obtain rfl : j = n := by omega
      go_wp2
      go_ret
      exact ⟨rfl, rfl⟩

set_option maxHeartbeats 1000000 in
theorem eqI64s (a b : Option Addr) (ca cb : Nat) (xs ys : List Int) (w : World) (ha : RowV w a (ivals xs)) (hb : RowV w b (ivals ys)) (h : xs = ys) (hn : xs.length ≤ maxLen) :
    Calls Try.prog 33 #[.slice a xs.length ca, .slice b ys.length cb] w fun e w' => e = .returned (.bool true) ∧ ∃ n, w' = w.drewN n := by
  subst h
  unfold maxLen at hn
  generalize hlen : xs.length = n at hn ⊢
  have HL := Lib.hid hlen
  clear hlen
  go_enter Try.func33, Try.ntmps33
  go_wp2
  go_loopw [5] (fun i wr => ∃ k : Nat, k ≤ n ∧ i = .int .i64 k ∧ ∃ m, wr = w.drewN m) (fun i _ => n - (intOf i).toNat)
  case atStart => exact ⟨0, Nat.zero_le _, rfl, 0, rfl⟩
  case round =>
    obtain ⟨k, hk, rfl, m, rfl⟩ := hrel
    by_cases hlt : k < n
    · have k1 : k < xs.length := by rw [HL.out]; exact hlt
      obtain ⟨ba, oa, rfl, c1⟩ := ha k _ (ivals_get k1)
      obtain ⟨bb, ob, rfl, c2⟩ := hb k _ (ivals_get k1)
      generalize xs[k] = x at *
      clear ha hb
      have hki : ((k : Nat) : Int) < (n : Int) := by omega
      go_wp2
      go_quiet (fail)
      go_wp2
      go_roundw
      case rel => exact ⟨k + 1, by omega, by go_num, _, rfl⟩
      case measure => simp [intOf]; omega
    · go_wp2
      go_ret
      exact ⟨rfl, _, rfl⟩

structure GotInts (B : Nat) (w w' : World) (m : List Int) (a : Option Addr) (y : List Int) : Prop where
  o : OwnV w' B a (ivals y)
  s : y = m ∧ y.length ≤ 256
  below : Below B w w'

theorem GotInts.none {B : Nat} {w w' : World} (b : Below B w w') : GotInts B w w' [] none [] := ⟨.inl ⟨rfl, rfl⟩, ⟨rfl, by decide⟩, b⟩

theorem fewI_max {y m : List Int} (h : y = m ∧ y.length ≤ 256) : y.length ≤ maxLen := by
  have := h.2
  unfold maxLen; omega

end Go.Proofs.Ytedfbaeajofmnaa

end
