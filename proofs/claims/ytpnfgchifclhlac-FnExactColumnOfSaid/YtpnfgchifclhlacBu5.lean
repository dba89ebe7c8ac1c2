/- Several texts in one: facts on floats, lists, memory and the functions that the theorems beside this text use. Conditions: none beyond those of each theorem. -/
import Derived.Test.YtpnfgchifclhlacBu4
import Derived.Test.YtpnfgchifclhlacBu2
import Derived.WalkSpells

set_option linter.unusedVariables false

section

namespace Go.Proofs.Ytpnfgchifclhlac
open Go Ieee Go.RowKit
set_option linter.unusedVariables false

def cellB (wd hi x y : Int) : Bool := decide (0 ≤ x ∧ x ≤ wd - 1) && decide (0 ≤ y ∧ y ≤ hi - 1)

theorem cell_in {wd hi x y : Int} (h : cellB wd hi x y = true) : 0 ≤ x ∧ x < wd ∧ 0 ≤ y ∧ y < hi := by
  unfold cellB at h
  simp only [Bool.and_eq_true, decide_eq_true_eq] at h
  omega

theorem index_in {wd hi x y : Int} (h : cellB wd hi x y = true) (h2 : wd * hi ≤ 256) : 0 ≤ wd * y ∧ 0 ≤ x + wd * y ∧ x + wd * y < wd * hi ∧ wd * y ≤ 256 := by
  obtain ⟨a, b, c, d⟩ := cell_in h
  have e : 0 ≤ wd * y := Int.mul_nonneg (by omega) c
  have f : wd * (y + 1) ≤ wd * hi := Int.mul_le_mul_of_nonneg_left (by omega) (by omega)
  rw [Int.mul_add, Int.mul_one] at f
  omega

theorem implHas (wd hi x y : Int) (wb : Bool) (w : World) (s1 : 3 ≤ wd) (s2 : wd ≤ 16) (s3 : 3 ≤ hi) (s4 : hi ≤ 16) : Calls Try.prog 69 #[.agg #[.int .i64 wd, .int .i64 hi, .bool wb], .agg #[.int .i64 x, .int .i64 y]] w fun e w' => e = .returned (.bool (cellB wd hi x y)) ∧ Below w.heap.size w w' := by
  have B := ((Below.refl w.heap.size w).alloc (Nat.le_refl _) (.cells #[.int .i64 wd, .int .i64 hi, .bool wb] 81)).alloc (by simp) (.cells #[.int .i64 x, .int .i64 y] 85)
  have HB := Lib.hid B; clear B
  by_cases k0 : 0 ≤ x
  · skip
    by_cases k1 : x < wd
    · skip
      by_cases k2 : 0 ≤ y
      · skip
        by_cases k3 : y < hi
        · skip
          have HC : Hid (cellB wd hi x y = true) := Lib.hid (by unfold cellB; rw [decide_eq_true (by omega), decide_eq_true (by omega)]; rfl)
          have d0 : decide (0 ≤ x) = true := decide_eq_true k0
          have d1 : decide (x < wd) = true := decide_eq_true k1
          have d2 : decide (0 ≤ y) = true := decide_eq_true k2
          have d3 : decide (y < hi) = true := decide_eq_true k3
          clear k0 k1 k2 k3
          go_enter Try.func69, Try.ntmps69
          go_wp2
          go_ret
          exact ⟨by rw [HC.out]; rfl, HB.out⟩
        · skip
          have HC : Hid (cellB wd hi x y = false) := Lib.hid (by unfold cellB; rw [decide_eq_false (p := 0 ≤ y ∧ y ≤ hi - 1) (by omega), Bool.and_false])
          have d0 : decide (0 ≤ x) = true := decide_eq_true k0
          have d1 : decide (x < wd) = true := decide_eq_true k1
          have d2 : decide (0 ≤ y) = true := decide_eq_true k2
          have d3 : decide (y < hi) = false := decide_eq_false k3
          clear k0 k1 k2 k3
          go_enter Try.func69, Try.ntmps69
          go_wp2
          go_ret
          exact ⟨by rw [HC.out]; rfl, HB.out⟩
      · skip
        have HC : Hid (cellB wd hi x y = false) := Lib.hid (by unfold cellB; rw [decide_eq_false (p := 0 ≤ y ∧ y ≤ hi - 1) (by omega), Bool.and_false])
        have d0 : decide (0 ≤ x) = true := decide_eq_true k0
        have d1 : decide (x < wd) = true := decide_eq_true k1
        have d2 : decide (0 ≤ y) = false := decide_eq_false k2
        clear k0 k1 k2
        go_enter Try.func69, Try.ntmps69
        go_wp2
        go_ret
        exact ⟨by rw [HC.out]; rfl, HB.out⟩
    · skip
      have HC : Hid (cellB wd hi x y = false) := Lib.hid (by unfold cellB; rw [decide_eq_false (by omega)]; rfl)
      have d0 : decide (0 ≤ x) = true := decide_eq_true k0
      have d1 : decide (x < wd) = false := decide_eq_false k1
      clear k0 k1
      go_enter Try.func69, Try.ntmps69
      go_wp2
      go_ret
      exact ⟨by rw [HC.out]; rfl, HB.out⟩
  · skip
    have HC : Hid (cellB wd hi x y = false) := Lib.hid (by unfold cellB; rw [decide_eq_false (by omega)]; rfl)
    have d0 : decide (0 ≤ x) = false := decide_eq_false k0
    clear k0
    go_enter Try.func69, Try.ntmps69
    go_wp2
    go_ret
    exact ⟨by rw [HC.out]; rfl, HB.out⟩

theorem implIndexOf (wd hi x y : Int) (wb : Bool) (w : World) (k1 : 0 ≤ wd * y) (k2 : wd * y ≤ 256) (k3 : 0 ≤ x) (k4 : x ≤ 256) : Calls Try.prog 70 #[.agg #[.int .i64 wd, .int .i64 hi, .bool wb], .agg #[.int .i64 x, .int .i64 y]] w fun e w' => e = .returned (.int .i64 (x + wd * y)) ∧ Below w.heap.size w w' := by
  have B := ((Below.refl w.heap.size w).alloc (Nat.le_refl _) (.cells #[.int .i64 wd, .int .i64 hi, .bool wb] 81)).alloc (by simp) (.cells #[.int .i64 x, .int .i64 y] 85)
  have HB := Lib.hid B; clear B
  go_enter Try.func70, Try.ntmps70
  go_wp2
  go_ret
  exact ⟨rfl, HB.out⟩

end Go.Proofs.Ytpnfgchifclhlac

end

section

namespace Go.Proofs.Ytpnfgchifclhlac
open Go Ieee Go.RowKit
set_option linter.unusedVariables false

theorem make_f32s (n : Nat) (hn : n ≤ 1048576) (w : World) : (Instr.makeSlice 22 (.int .i64 (n : Int)) (.int .i64 (n : Int))).run Try.prog w = .ok (.slice (some ⟨w.heap.size, 0, none⟩) n n) (w.alloc (.cells (List.replicate n (Value.float .f32 0)).toArray 52)) := by
  obtain ⟨i0, hi, hz0, hz1, hz2⟩ := info_parts Try.infoF32
  have := run_make (P := Try.prog) w 22 52 i0 (.float .f32 0) Try.underlying22 hi hz0 .i64 .i64 n n (by omega) (Int.le_refl _) (by rw [hz2]; omega) (by omega)
  rw [this, hz1, Nat.mul_one, Int.toNat_natCast]
  have e : madeCells (Value.float FloatKind.f32 0).cells n = (List.replicate n (Value.float .f32 0)).toArray := by
    apply Array.toList_inj.1
    rw [show (Value.float FloatKind.f32 0).cells = #[.float .f32 0] from rfl, toList_madeCells_one]
  rw [e]

theorem fvals_zeros (n : Nat) : fvals (List.replicate n 0) = List.replicate n (Value.float .f32 0) := by unfold fvals; rw [List.map_replicate]

theorem own_zeros (w : World) (n : Nat) (t : TypeId) : OwnV (w.alloc (.cells (List.replicate n (Value.float .f32 0)).toArray t)) w.heap.size (some ⟨w.heap.size, 0, none⟩) (fvals (List.replicate n 0)) :=
  .inr ⟨_, _, t, rfl, Nat.le_refl _, Blk.new w _ t, fun i u h => by rw [fvals_zeros] at h; rw [List.getElem?_toArray]; exact h⟩

theorem is_zeros {n : Nat} (h : n ≤ 256) : Is (List.replicate n 0) (List.replicate n (some 0)) :=
  ⟨(by unfold cl; rw [List.map_replicate]; rfl), (fun y hy => by rw [List.eq_of_mem_replicate hy]; decide), (by simpa using h)⟩

theorem implZeros (wd hi : Int) (wb : Bool) (n : Nat) (w : World) (hn : wd * hi = n) (h256 : n ≤ 256) : Calls Try.prog 83 #[.agg #[.int .i64 wd, .int .i64 hi, .bool wb]] w fun e w' => ∃ g, e = .returned (.slice (some ⟨g, 0, none⟩) n n) ∧ OwnV w' w.heap.size (some ⟨g, 0, none⟩) (fvals (List.replicate n 0)) ∧ Below w.heap.size w w' ∧ g < w'.heap.size := by
  have h0 : 0 ≤ wd * hi := by omega
  have h1 : wd * hi ≤ 256 := by omega
  have HN := Lib.hid hn; clear hn
  have hmk := make_f32s n (by omega)
  have h2 := Int.natCast_nonneg n
  have X := Blk.new w #[.int .i64 wd, .int .i64 hi, .bool wb] 81
  have HB : Hid (Below w.heap.size w (w.alloc (.cells #[.int .i64 wd, .int .i64 hi, .bool wb] 81))) := Lib.hid ((Below.refl w.heap.size w).alloc (by simp <;> omega) _)
  go_enter Try.func83, Try.ntmps83
  go_wp2_with fail
  generalize (w.alloc (.cells #[.int .i64 wd, .int .i64 hi, .bool wb] 81)) = u1 at *
  refine (implCount _ _ _ _ h0 h1).mono ?_
  rintro r u2 ⟨rfl, q⟩
  replace X := X.later q
  replace HB := Lib.hid (HB.out.trans (q.mono HB.out.size))
  clear q
  rw [HN.out]
  clear h0 h1
  go_wp2
  go_ret
  exact ⟨u2.heap.size, rfl, (own_zeros u2 n _).lower HB.out.size, HB.out.alloc HB.out.size _, by simp⟩

theorem zeros3 (S : World) (n : Nat) (t : TypeId) (B k : Nat) (hk : S.heap.size = k) (hB : B ≤ k) :
    OwnV (((S.alloc (.cells (Array.replicate n (Value.float .f32 0)) t)).alloc (.cells (Array.replicate n (Value.float .f32 0)) t)).alloc (.cells (Array.replicate n (Value.float .f32 0)) t)).drew B (some ⟨k, 0, none⟩) (fvals (List.replicate n 0)) ∧
    OwnV (((S.alloc (.cells (Array.replicate n (Value.float .f32 0)) t)).alloc (.cells (Array.replicate n (Value.float .f32 0)) t)).alloc (.cells (Array.replicate n (Value.float .f32 0)) t)).drew B (some ⟨k + 1, 0, none⟩) (fvals (List.replicate n 0)) ∧
    OwnV (((S.alloc (.cells (Array.replicate n (Value.float .f32 0)) t)).alloc (.cells (Array.replicate n (Value.float .f32 0)) t)).alloc (.cells (Array.replicate n (Value.float .f32 0)) t)).drew B (some ⟨k + 1 + 1, 0, none⟩) (fvals (List.replicate n 0)) := by
  subst hk
  have g : ∀ (i : Nat) (u : Value), (fvals (List.replicate n 0))[i]? = some u → (Array.replicate n (Value.float .f32 0))[i]? = some u := fun i u h => by
    rw [fvals_zeros] at h
    rw [← Array.getElem?_toList, Array.toList_replicate]; exact h
  exact ⟨.inr ⟨_, _, t, rfl, hB, ((Blk.new S _ t).alloc _).alloc _, g⟩, .inr ⟨_, _, t, rfl, Nat.le_trans hB (Nat.le_add_right _ _), (Blk.new1 S _ _ t).alloc _, g⟩, .inr ⟨_, _, t, rfl, Nat.le_trans hB (Nat.le_trans (Nat.le_add_right _ _) (Nat.le_add_right _ _)), Blk.new2 S _ _ _ t, g⟩⟩

def zeroM (wd hi : Int) (xs ys : List Nat) : List (Option Nat) := if validB wd hi xs ys then List.replicate (wd * hi).toNat (some 0) else []

set_option maxHeartbeats 4000000 in
theorem implZeroField (wd hi : Int) (wb : Bool) (a b : Option Addr) (ca cb : Nat) (xs ys : List Nat) (w : World) (ha : RowV w a (fvals xs)) (hb : RowV w b (fvals ys)) (hx : xs.length ≤ maxLen) (hy : ys.length ≤ maxLen) : Calls Try.prog 39 #[.agg #[.int .i64 wd, .int .i64 hi, .bool wb, .slice a xs.length ca, .slice b ys.length cb]] w fun r w' => ∃ (a0 a1 a2 : Option Addr) (c0 c1 c2 : Nat) (y0 y1 y2 : List Nat), r = .returned (.tuple #[.agg #[.slice a0 y0.length c0, .slice a1 y1.length c1, .slice a2 y2.length c2], .bool (validB wd hi xs ys)]) ∧ GotField w.heap.size w w' (zeroM wd hi xs ys) (zeroM wd hi xs ys) (zeroM wd hi xs ys) a0 a1 a2 y0 y1 y2 := by
  have X := Blk.new w #[.int .i64 wd, .int .i64 hi, .bool wb, .slice a xs.length ca, .slice b ys.length cb] 31
  have R := Blk.new1 w (.cells #[.int .i64 wd, .int .i64 hi, .bool wb, .slice a xs.length ca, .slice b ys.length cb] 31) #[.slice none 0 0, .slice none 0 0, .slice none 0 0] 33
  replace X := X.alloc (.cells #[.slice none 0 0, .slice none 0 0, .slice none 0 0] 33)
  have HB : Hid (Below w.heap.size w ((w.alloc (.cells #[.int .i64 wd, .int .i64 hi, .bool wb, .slice a xs.length ca, .slice b ys.length cb] 31)).alloc (.cells #[.slice none 0 0, .slice none 0 0, .slice none 0 0] 33))) := Lib.hid (((Below.refl w.heap.size w).alloc (by simp <;> omega) _).alloc (by simp <;> omega) _)
  go_enter Try.func39, Try.ntmps39
  go_wp2_with fail
  generalize ((w.alloc (.cells #[.int .i64 wd, .int .i64 hi, .bool wb, .slice a xs.length ca, .slice b ys.length cb] 31)).alloc (.cells #[.slice none 0 0, .slice none 0 0, .slice none 0 0] 33)) = u1 at *
  refine (implValidSheet _ _ _ _ _ _ _ _ _ _ (ha.later HB.out) (hb.later HB.out) hx hy).mono ?_
  rintro r u2 ⟨rfl, q⟩
  replace X := X.later q
  replace R := R.later q
  replace HB := Lib.hid (HB.out.trans (q.mono HB.out.size))
  clear q
  rcases hs : validB wd hi xs ys with _ | _
  · skip
    have HM : Hid (zeroM wd hi xs ys = []) := Lib.hid (by unfold zeroM; rw [hs]; rfl)
    obtain ⟨Rc, Rf⟩ := R.open
    go_wp2
    refine bodyPost_ret (v := .tuple #[.agg #[.slice none 0 0, .slice none 0 0, .slice none 0 0], .bool false]) (by simp [results, Try.results39, go_sem, Rc]) rfl ⟨none, none, none, 0, 0, 0, [], [], [], by rw [hs]; rfl, by rw [HM.out]; exact GotField.none (((HB.out.setCell (p := ⟨w.heap.size + 1, 0, none⟩) (by simp) _).setCell (p := ⟨w.heap.size + 1, 1, none⟩) (by simp) _).setCell (p := ⟨w.heap.size + 1, 2, none⟩) (by simp) _)⟩
  obtain ⟨s1, s2, s3, s4, t1, t2⟩ := sides_mul (valid_sides hs)
  obtain ⟨n, hn⟩ := Int.eq_ofNat_of_zero_le (show 0 ≤ wd * hi by omega)
  have hn256 : n ≤ 256 := by omega
  have HM : Hid (zeroM wd hi xs ys = List.replicate n (some 0)) := Lib.hid (by unfold zeroM; rw [hs, hn]; rfl)
  have HN := Lib.hid hn; clear hn t1 t2
  obtain ⟨Xc, Xf⟩ := X.open
  go_wp2_with fail
  refine (implShapeOf _ _ _ _ _ _ _ _ _ _).mono ?_
  rintro r u3 ⟨rfl, q⟩
  clear Xc Xf
  replace X := X.later q
  replace R := R.later q
  replace HB := Lib.hid (HB.out.trans (q.mono HB.out.size))
  clear q
  have SZZ : w.heap.size + 1 < u3.heap.size + 0 := Nat.lt_of_lt_of_le R.lt (Nat.le_add_right _ _)
  have Z := Blk.new u3 #[.int .i64 wd, .int .i64 hi, .bool wb] 81
  have q := below_new u3 (.cells #[.int .i64 wd, .int .i64 hi, .bool wb] 81)
  replace X := X.later q
  replace R := R.later q
  replace HB := Lib.hid (HB.out.trans (q.mono HB.out.size))
  clear q
  obtain ⟨Zc, Zf⟩ := Z.open
  obtain ⟨Rc, Rf⟩ := R.open
  go_wp2_with fail
  generalize (u3.alloc (.cells #[.int .i64 wd, .int .i64 hi, .bool wb] 81)) = u4 at *
  clear Zc Zf
  clear Rc Rf
  have neZ : u3.heap.size ≠ w.heap.size + 1 := by omega
  have tk0 : True := trivial
  have tk1 : True := trivial
  have tk2 : True := trivial
  go_region_held3 (fun w' => (∀ i, w'.cell? ⟨u3.heap.size, i, none⟩ = (#[.int .i64 wd, .int .i64 hi, .bool wb] : Array Value)[i]?) ∧ u4.grownBy w' (some (w.heap.size + 1))) (first | exact keepR1_start Z | exact keepR1_later Z neZ (by assumption) (by assumption) | exact keepR1_set3 Z neZ (by assumption) _ _ _)
    (first
      | (go_at_call 83; have _t := tk0; clear _t tk0; (with_reducible refine (implZeros _ _ _ n _ HN.out hn256).mono ?_); rintro r u5 ⟨gg0, rfl, oo0, qa0, kk0⟩)
      | (go_at_call 83; have _t := tk1; clear _t tk1; (with_reducible refine (implZeros _ _ _ n _ HN.out hn256).mono ?_); rintro r u6 ⟨gg1, rfl, oo1, qa1, kk1⟩)
      | (go_at_call 83; have _t := tk2; clear _t tk2; (with_reducible refine (implZeros _ _ _ n _ HN.out hn256).mono ?_); rintro r u7 ⟨gg2, rfl, oo2, qa2, kk2⟩; obtain ⟨Rc, Rf⟩ := (R.later (below_next (below_next (below_next (below_drew u4) qa0) qa1) qa2)).open))
  go_wp2
  have b0 : u4.heap.size ≤ gg0 := oo0.bound gg0 rfl
  have b1 : u5.heap.size ≤ gg1 := oo1.bound gg1 rfl
  have b2 : u6.heap.size ≤ gg2 := oo2.bound gg2 rfl
  have z0 := R.lt; have z1 := qa1.size; have z2 := qa2.size; have z3 := HB.out.size; have z4 : u4.heap.size ≤ u5.heap.size := qa0.size
  refine bodyPost_ret (v := .tuple #[.agg #[.slice (some ⟨gg0, 0, none⟩) n n, .slice (some ⟨gg1, 0, none⟩) n n, .slice (some ⟨gg2, 0, none⟩) n n], .bool true]) (by simp [results, Try.results39, go_sem, Rc]) rfl ⟨some ⟨gg0, 0, none⟩, some ⟨gg1, 0, none⟩, some ⟨gg2, 0, none⟩, n, n, n, List.replicate n 0, List.replicate n 0, List.replicate n 0, by rw [hs, List.length_replicate], by rw [HM.out]; exact ⟨(((((oo0.later (below_next qa1 qa2)).lower (show w.heap.size ≤ _ by first | omega | exact z3)).set (p := ⟨w.heap.size + 1, 0, none⟩) (ne_block (h := w.heap.size + 1) (by omega)) _).set (p := ⟨w.heap.size + 1, 1, none⟩) (ne_block (h := w.heap.size + 1) (by omega)) _).set (p := ⟨w.heap.size + 1, 2, none⟩) (ne_block (h := w.heap.size + 1) (by omega)) _), (((((oo1.later qa2).lower (show w.heap.size ≤ _ by first | omega | exact z3)).set (p := ⟨w.heap.size + 1, 0, none⟩) (ne_block (h := w.heap.size + 1) (by omega)) _).set (p := ⟨w.heap.size + 1, 1, none⟩) (ne_block (h := w.heap.size + 1) (by omega)) _).set (p := ⟨w.heap.size + 1, 2, none⟩) (ne_block (h := w.heap.size + 1) (by omega)) _), (((((oo2).lower (show w.heap.size ≤ _ by first | omega | exact z3)).set (p := ⟨w.heap.size + 1, 0, none⟩) (ne_block (h := w.heap.size + 1) (by omega)) _).set (p := ⟨w.heap.size + 1, 1, none⟩) (ne_block (h := w.heap.size + 1) (by omega)) _).set (p := ⟨w.heap.size + 1, 2, none⟩) (ne_block (h := w.heap.size + 1) (by omega)) _), apart_ne (by omega), apart_ne (by omega), apart_ne (by omega), is_zeros hn256, is_zeros hn256, is_zeros hn256, ((((HB.out.trans ((below_next (below_next (below_next (below_drew u4) qa0) qa1) qa2).mono HB.out.size)).setCell (p := ⟨w.heap.size + 1, 0, none⟩) (by simp) _).setCell (p := ⟨w.heap.size + 1, 1, none⟩) (by simp) _).setCell (p := ⟨w.heap.size + 1, 2, none⟩) (by simp) _)⟩⟩

set_option maxHeartbeats 4000000 in
theorem specZero (n : Nat) (w : World) (h256 : n ≤ 256) : Calls Try.prog 114 #[.int .i64 n] w fun r w' => ∃ (a0 a1 a2 : Option Addr), r = .returned (.agg #[.slice a0 n n, .slice a1 n n, .slice a2 n n]) ∧ GotField w.heap.size w w' (List.replicate n (some 0)) (List.replicate n (some 0)) (List.replicate n (some 0)) a0 a1 a2 (List.replicate n 0) (List.replicate n 0) (List.replicate n 0) := by
  have hmk := make_f32s n (by omega)
  have h2 := Int.natCast_nonneg n
  have R := Blk.new w #[.slice none 0 0, .slice none 0 0, .slice none 0 0] 33
  have HB : Hid (Below w.heap.size w (w.alloc (.cells #[.slice none 0 0, .slice none 0 0, .slice none 0 0] 33))) := Lib.hid ((Below.refl w.heap.size w).alloc (by simp <;> omega) _)
  go_enter Try.func114, Try.ntmps114
  go_wp2_with fail
  generalize (w.alloc (.cells #[.slice none 0 0, .slice none 0 0, .slice none 0 0] 33)) = u1 at *
  obtain ⟨Rc, Rf⟩ := R.open
  have lt0 := R.lt; have lt1 : w.heap.size < u1.heap.size + 1 := by omega
  have lt2 : w.heap.size < u1.heap.size + 1 + 1 := by omega
  go_region_held3 (fun w' => u1.grownBy w' (some w.heap.size)) (first | exact grown_drew _ _ | exact grown_next (by assumption) (below_new _ _) | exact grown_next (grown_next (grown_next (grown_next (grown_set1 (grown_set1 (grown_set1 (grown_refl _ _) _ _) _ _) _ _) (below_new _ _)) (below_new _ _)) (below_new _ _)) (below_drew _)) (fail)
  all_goals go_wp2
  all_goals (first
      | (refine bodyPost_ret (v := .agg #[.slice (some ⟨u1.heap.size, 0, none⟩) n n, .slice (some ⟨u1.heap.size + 1, 0, none⟩) n n, .slice (some ⟨u1.heap.size + 1 + 1, 0, none⟩) n n]) ?_ rfl ⟨some ⟨u1.heap.size, 0, none⟩, some ⟨u1.heap.size + 1, 0, none⟩, some ⟨u1.heap.size + 1 + 1, 0, none⟩, rfl, ⟨(zeros3 _ n _ _ u1.heap.size (by simp) (by omega)).1, (zeros3 _ n _ _ u1.heap.size (by simp) (by omega)).2.1, (zeros3 _ n _ _ u1.heap.size (by simp) (by omega)).2.2, apart_ne (by omega), apart_ne (by omega), apart_ne (by omega), is_zeros h256, is_zeros h256, is_zeros h256, ((((((HB.out.setCell (p := ⟨w.heap.size, 0, none⟩) (Nat.le_refl _) _).setCell (p := ⟨w.heap.size, 1, none⟩) (Nat.le_refl _) _).setCell (p := ⟨w.heap.size, 2, none⟩) (Nat.le_refl _) _).alloc (by simp; omega) _).alloc (by simp; omega) _).alloc (by simp; omega) _).drew⟩⟩; (simp [results, Try.results114, go_sem, Rc, lt0, lt1, lt2]; done))
      | (refine bodyPost_ret (v := .agg #[.slice (some ⟨u1.heap.size, 0, none⟩) n n, .slice (some ⟨u1.heap.size + 1 + 1, 0, none⟩) n n, .slice (some ⟨u1.heap.size + 1, 0, none⟩) n n]) ?_ rfl ⟨some ⟨u1.heap.size, 0, none⟩, some ⟨u1.heap.size + 1 + 1, 0, none⟩, some ⟨u1.heap.size + 1, 0, none⟩, rfl, ⟨(zeros3 _ n _ _ u1.heap.size (by simp) (by omega)).1, (zeros3 _ n _ _ u1.heap.size (by simp) (by omega)).2.2, (zeros3 _ n _ _ u1.heap.size (by simp) (by omega)).2.1, apart_ne (by omega), apart_ne (by omega), apart_ne (by omega), is_zeros h256, is_zeros h256, is_zeros h256, ((((((HB.out.setCell (p := ⟨w.heap.size, 0, none⟩) (Nat.le_refl _) _).setCell (p := ⟨w.heap.size, 1, none⟩) (Nat.le_refl _) _).setCell (p := ⟨w.heap.size, 2, none⟩) (Nat.le_refl _) _).alloc (by simp; omega) _).alloc (by simp; omega) _).alloc (by simp; omega) _).drew⟩⟩; (simp [results, Try.results114, go_sem, Rc, lt0, lt1, lt2]; done))
      | (refine bodyPost_ret (v := .agg #[.slice (some ⟨u1.heap.size + 1, 0, none⟩) n n, .slice (some ⟨u1.heap.size, 0, none⟩) n n, .slice (some ⟨u1.heap.size + 1 + 1, 0, none⟩) n n]) ?_ rfl ⟨some ⟨u1.heap.size + 1, 0, none⟩, some ⟨u1.heap.size, 0, none⟩, some ⟨u1.heap.size + 1 + 1, 0, none⟩, rfl, ⟨(zeros3 _ n _ _ u1.heap.size (by simp) (by omega)).2.1, (zeros3 _ n _ _ u1.heap.size (by simp) (by omega)).1, (zeros3 _ n _ _ u1.heap.size (by simp) (by omega)).2.2, apart_ne (by omega), apart_ne (by omega), apart_ne (by omega), is_zeros h256, is_zeros h256, is_zeros h256, ((((((HB.out.setCell (p := ⟨w.heap.size, 0, none⟩) (Nat.le_refl _) _).setCell (p := ⟨w.heap.size, 1, none⟩) (Nat.le_refl _) _).setCell (p := ⟨w.heap.size, 2, none⟩) (Nat.le_refl _) _).alloc (by simp; omega) _).alloc (by simp; omega) _).alloc (by simp; omega) _).drew⟩⟩; (simp [results, Try.results114, go_sem, Rc, lt0, lt1, lt2]; done))
      | (refine bodyPost_ret (v := .agg #[.slice (some ⟨u1.heap.size + 1, 0, none⟩) n n, .slice (some ⟨u1.heap.size + 1 + 1, 0, none⟩) n n, .slice (some ⟨u1.heap.size, 0, none⟩) n n]) ?_ rfl ⟨some ⟨u1.heap.size + 1, 0, none⟩, some ⟨u1.heap.size + 1 + 1, 0, none⟩, some ⟨u1.heap.size, 0, none⟩, rfl, ⟨(zeros3 _ n _ _ u1.heap.size (by simp) (by omega)).2.1, (zeros3 _ n _ _ u1.heap.size (by simp) (by omega)).2.2, (zeros3 _ n _ _ u1.heap.size (by simp) (by omega)).1, apart_ne (by omega), apart_ne (by omega), apart_ne (by omega), is_zeros h256, is_zeros h256, is_zeros h256, ((((((HB.out.setCell (p := ⟨w.heap.size, 0, none⟩) (Nat.le_refl _) _).setCell (p := ⟨w.heap.size, 1, none⟩) (Nat.le_refl _) _).setCell (p := ⟨w.heap.size, 2, none⟩) (Nat.le_refl _) _).alloc (by simp; omega) _).alloc (by simp; omega) _).alloc (by simp; omega) _).drew⟩⟩; (simp [results, Try.results114, go_sem, Rc, lt0, lt1, lt2]; done))
      | (refine bodyPost_ret (v := .agg #[.slice (some ⟨u1.heap.size + 1 + 1, 0, none⟩) n n, .slice (some ⟨u1.heap.size, 0, none⟩) n n, .slice (some ⟨u1.heap.size + 1, 0, none⟩) n n]) ?_ rfl ⟨some ⟨u1.heap.size + 1 + 1, 0, none⟩, some ⟨u1.heap.size, 0, none⟩, some ⟨u1.heap.size + 1, 0, none⟩, rfl, ⟨(zeros3 _ n _ _ u1.heap.size (by simp) (by omega)).2.2, (zeros3 _ n _ _ u1.heap.size (by simp) (by omega)).1, (zeros3 _ n _ _ u1.heap.size (by simp) (by omega)).2.1, apart_ne (by omega), apart_ne (by omega), apart_ne (by omega), is_zeros h256, is_zeros h256, is_zeros h256, ((((((HB.out.setCell (p := ⟨w.heap.size, 0, none⟩) (Nat.le_refl _) _).setCell (p := ⟨w.heap.size, 1, none⟩) (Nat.le_refl _) _).setCell (p := ⟨w.heap.size, 2, none⟩) (Nat.le_refl _) _).alloc (by simp; omega) _).alloc (by simp; omega) _).alloc (by simp; omega) _).drew⟩⟩; (simp [results, Try.results114, go_sem, Rc, lt0, lt1, lt2]; done))
      | (refine bodyPost_ret (v := .agg #[.slice (some ⟨u1.heap.size + 1 + 1, 0, none⟩) n n, .slice (some ⟨u1.heap.size + 1, 0, none⟩) n n, .slice (some ⟨u1.heap.size, 0, none⟩) n n]) ?_ rfl ⟨some ⟨u1.heap.size + 1 + 1, 0, none⟩, some ⟨u1.heap.size + 1, 0, none⟩, some ⟨u1.heap.size, 0, none⟩, rfl, ⟨(zeros3 _ n _ _ u1.heap.size (by simp) (by omega)).2.2, (zeros3 _ n _ _ u1.heap.size (by simp) (by omega)).2.1, (zeros3 _ n _ _ u1.heap.size (by simp) (by omega)).1, apart_ne (by omega), apart_ne (by omega), apart_ne (by omega), is_zeros h256, is_zeros h256, is_zeros h256, ((((((HB.out.setCell (p := ⟨w.heap.size, 0, none⟩) (Nat.le_refl _) _).setCell (p := ⟨w.heap.size, 1, none⟩) (Nat.le_refl _) _).setCell (p := ⟨w.heap.size, 2, none⟩) (Nat.le_refl _) _).alloc (by simp; omega) _).alloc (by simp; omega) _).alloc (by simp; omega) _).drew⟩⟩; (simp [results, Try.results114, go_sem, Rc, lt0, lt1, lt2]; done)))

end Go.Proofs.Ytpnfgchifclhlac

end

section

namespace Go.Proofs.Ytpnfgchifclhlac
open Go Ieee Go.RowKit
set_option linter.unusedVariables false

theorem implZeroFieldL (wd hi : Int) (wb : Bool) (a b : Option Addr) (ca cb : Nat) (xs ys : List Nat) (w : World) (ha : RowV w a (fvals xs)) (hb : RowV w b (fvals ys)) (qa : ∀ z ∈ xs, z < 2 ^ 32) (qb : ∀ z ∈ ys, z < 2 ^ 32) (hx : xs.length ≤ maxLen) (hy : ys.length ≤ maxLen) : Calls Try.prog 39 #[.agg #[.int .i64 wd, .int .i64 hi, .bool wb, .slice a xs.length ca, .slice b ys.length cb]] w fun r w' => ∃ (a0 a1 a2 : Option Addr) (c0 c1 c2 : Nat) (y0 y1 y2 : List Nat), r = .returned (.tuple #[.agg #[.slice a0 y0.length c0, .slice a1 y1.length c1, .slice a2 y2.length c2], .bool (validB wd hi xs ys)]) ∧ GotField w.heap.size w w' (zeroM wd hi xs ys) (zeroM wd hi xs ys) (zeroM wd hi xs ys) a0 a1 a2 y0 y1 y2 := implZeroField _ _ _ _ _ _ _ _ _ _ ha hb hx hy

end Go.Proofs.Ytpnfgchifclhlac

end

section

namespace Go.Proofs.Ytpnfgchifclhlac
open Go Ieee Go.RowKit
set_option linter.unusedVariables false

theorem row_news {w : World} {b off : Nat} {vs : List Value} (h : RowV w (some ⟨b, off, none⟩) vs) : ∀ j u, vs[j]? = some u → w.cell? ((⟨b, off, none⟩ : Addr).add j) = some u := by
  intro j u hu
  obtain ⟨b', o', e, hc⟩ := h j u hu
  injection e with e
  injection e with e1 e2 _
  subst e1; subst e2
  by_cases hj : j = 0
  · subst hj; simpa [Addr.add] using hc
  · simpa [Addr.add, hj] using hc

theorem fvals_one {xs : List Nat} : ∀ u ∈ fvals xs, u.oneCell' = true := fun u hu => by
  unfold fvals at hu
  obtain ⟨x, _, rfl⟩ := List.mem_map.1 hu
  rfl

set_option maxRecDepth 100000 in
theorem implClone (b off c : Nat) (xs : List Nat) (w : World) (hr : RowV w (some ⟨b, off, none⟩) (fvals xs)) (h0 : 0 < xs.length) (hn : xs.length ≤ 1048576) : Calls Try.prog 97 #[.slice (some ⟨b, off, none⟩) xs.length c] w fun e w' => ∃ g c', e = .returned (.slice (some ⟨g, 0, none⟩) xs.length c') ∧ OwnV w' w.heap.size (some ⟨g, 0, none⟩) (fvals xs) ∧ Below w.heap.size w w' := by
  obtain ⟨i0, hi, hz0, hz1, hz2⟩ := info_parts Try.infoF32
  have HI := Lib.hid hi; have HZ0 := Lib.hid hz0; have HZ1 := Lib.hid hz1; have HZ2 := Lib.hid hz2
  clear hi hz0 hz1 hz2
  generalize hlen : xs.length = n at *
  have HL := Lib.hid hlen; clear hlen
  have hnil := fun (w : World) => Lib.run_eql_slice_nil (P := Try.prog) w 22 52 (some ⟨b, off, none⟩) n c 0 0 Try.underlying22
  skip
  go_enter Try.func97, Try.ntmps97
  go_wp2_with (at_builtin; refine wpList_append_own _ rfl _ _ 22 rfl w.heap.size 52 i0 (.float .f32 0) 1 4 Try.underlying22 HI.out HZ0.out HZ1.out HZ2.out rfl (by decide) (.slice (some ⟨w.heap.size, 0, none⟩) 0 0) 0 [] rfl (World.ownsRow_made w _ 0 (Nat.le_refl _) (by decide) rfl) ⟨b, off, none⟩ n c (fvals xs) rfl (by rw [fvals_length, HL.out, Nat.mul_one]) (row_news (hr.later (below_new _ _))) fvals_one (by unfold maxLen; omega) (by omega) (by simp) ?_; intro v' w1 hown hgrow _)
  have ho2 : w1.ownsRow w.heap.size 52 1 v' n (fvals xs) := by simpa using hown
  obtain ⟨g, cap, hv⟩ : ∃ g cap, v' = .slice (some ⟨g, 0, none⟩) n cap := by
    rcases ho2.2 with ⟨_, h⟩ | ⟨g, cap, cur, h, _⟩
    · omega
    · exact ⟨g, cap, h⟩
  rw [hv] at ho2
  go_ret
  exact ⟨g, cap, by rw [← hv]; rfl, OwnV.of_owned ho2, ((Below.refl _ _).alloc (Nat.le_refl _) _).grown hgrow (by simp) (fun k hk => by simp [Value.ownBlock] at hk; omega)⟩

end Go.Proofs.Ytpnfgchifclhlac

end

section

namespace Go.Proofs.Ytpnfgchifclhlac
open Go Ieee Go.RowKit
set_option linter.unusedVariables false

theorem appended {w w1 : World} {n : Nat} {xs : List Nat} {v' : Value} (h0 : 0 < n) (hown : w1.ownsRow w.heap.size 52 1 v' (0 + n) ([] ++ fvals xs)) (hgrow : (w.alloc (.cells #[] 52)).grownBy w1 (Value.slice (some ⟨w.heap.size, 0, none⟩) 0 0).ownBlock) :
    ∃ g cap, v' = .slice (some ⟨g, 0, none⟩) n cap ∧ OwnV w1 w.heap.size (some ⟨g, 0, none⟩) (fvals xs) ∧ Below w.heap.size w w1 ∧ g < w1.heap.size := by
  have ho2 : w1.ownsRow w.heap.size 52 1 v' n (fvals xs) := by simpa using hown
  obtain ⟨g, cap, hv⟩ : ∃ g cap, v' = .slice (some ⟨g, 0, none⟩) n cap := by
    rcases ho2.2 with ⟨_, h⟩ | ⟨g, cap, cur, h, _⟩
    · omega
    · exact ⟨g, cap, h⟩
  rw [hv] at ho2
  have hO : OwnV w1 w.heap.size (some ⟨g, 0, none⟩) (fvals xs) := OwnV.of_owned ho2
  exact ⟨g, cap, hv, hO, ((Below.refl _ _).alloc (Nat.le_refl _) _).grown hgrow (by simp) (fun k hk => by simp [Value.ownBlock] at hk; omega), (hO.span _ rfl).2⟩

theorem out_set (u : World) (g i : Nat) (v : Value) : Out u (u.setCell ⟨g, i, none⟩ v) g (g + 1) :=
  ⟨by simp, fun j _ hd => heap_setCell_other u ⟨g, i, none⟩ j v (by dsimp only; omega)⟩

set_option maxHeartbeats 4000000 in
set_option maxRecDepth 100000 in
theorem specOwn (gf p0 p1 p2 o0 o1 o2 c0 c1 c2 n : Nat) (e x y : List Nat) (w : World) (hg : Blk w gf #[.slice (some ⟨p0, o0, none⟩) e.length c0, .slice (some ⟨p1, o1, none⟩) x.length c1, .slice (some ⟨p2, o2, none⟩) y.length c2] 33) (h0 : RowV w (some ⟨p0, o0, none⟩) (fvals e)) (h1 : RowV w (some ⟨p1, o1, none⟩) (fvals x)) (h2 : RowV w (some ⟨p2, o2, none⟩) (fvals y)) (l0 : e.length = n) (l1 : x.length = n) (l2 : y.length = n) (hn : 0 < n) (hn2 : n ≤ 256) :
    Calls Try.prog 102 #[.pointer (some ⟨gf, 0, none⟩)] w fun r w' => ∃ g0 g1 g2 k0 k1 k2, r = .returned (.agg #[.slice (some ⟨g0, 0, none⟩) n k0, .slice (some ⟨g1, 0, none⟩) n k1, .slice (some ⟨g2, 0, none⟩) n k2]) ∧ OwnV w' w.heap.size (some ⟨g0, 0, none⟩) (fvals e) ∧ OwnV w' w.heap.size (some ⟨g1, 0, none⟩) (fvals x) ∧ OwnV w' w.heap.size (some ⟨g2, 0, none⟩) (fvals y) ∧ g0 < g1 ∧ g1 < g2 ∧ Below w.heap.size w w' := by
  obtain ⟨i0, hi, hz0, hz1, hz2⟩ := info_parts Try.infoF32
  have HI := Lib.hid hi; have HZ0 := Lib.hid hz0; have HZ1 := Lib.hid hz1; have HZ2 := Lib.hid hz2
  clear hi hz0 hz1 hz2
  have L0 := Lib.hid l0
  have L1 := Lib.hid l1
  have L2 := Lib.hid l2
  rw [l0, l1, l2] at hg
  clear l0 l1 l2
  have F := hg
  have R := Blk.new w #[.slice none 0 0, .slice none 0 0, .slice none 0 0] 33
  have HB : Hid (Below w.heap.size w (w.alloc (.cells #[.slice none 0 0, .slice none 0 0, .slice none 0 0] 33))) := Lib.hid ((Below.refl w.heap.size w).alloc (by simp <;> omega) _)
  go_enter Try.func102, Try.ntmps102
  go_upto_region 1 with (fail)
  generalize (w.alloc (.cells #[.slice none 0 0, .slice none 0 0, .slice none 0 0] 33)) = u1 at *
  replace F := hg.later HB.out
  have H0 := Lib.hid (h0.later HB.out)
  have H1 := Lib.hid (h1.later HB.out)
  have H2 := Lib.hid (h2.later HB.out)
  have zr := R.lt; have zf := hg.lt
  have lw0 := h0.low
  have lw1 := h1.low
  have lw2 := h2.low
  have F1 := F.alloc (.cells #[] 52)
  obtain ⟨f1c, f1f⟩ := F1.open
  go_upto_region 2 with (at_builtin; refine wpList_append_own _ rfl _ _ 22 rfl u1.heap.size 52 i0 (.float .f32 0) 1 4 Try.underlying22 HI.out HZ0.out HZ1.out HZ2.out rfl (by decide) (.slice (some ⟨u1.heap.size, 0, none⟩) 0 0) 0 [] rfl (World.ownsRow_made u1 _ 0 (Nat.le_refl _) (by decide) rfl) ⟨p0, o0, none⟩ n c0 (fvals e) rfl (by rw [fvals_length, L0.out, Nat.mul_one]) (row_news (H0.out.later (below_new _ _))) fvals_one (by unfold maxLen; omega) (by omega) (by simp) ?_; intro v' w0 hown hgrow _; obtain ⟨g0, k0, hv, W0, q, z0⟩ := appended hn hown hgrow; rw [hv]; clear hv hown hgrow)
  clear f1c f1f F1
  replace R := R.later q
  replace F := F.later q
  replace H0 := Lib.hid (H0.out.later q)
  replace H1 := Lib.hid (H1.out.later q)
  replace H2 := Lib.hid (H2.out.later q)
  replace HB := Lib.hid (HB.out.trans (q.mono HB.out.size))
  have sa := q.size; clear q
  have BX := Blk.new w0 #[.slice (some ⟨g0, 0, none⟩) n k0, .slice none 0 0, .slice none 0 0] 33
  have y0 := W0.bound g0 rfl
  replace W0 := Lib.hid W0
  have q := below_new w0 (.cells #[.slice (some ⟨g0, 0, none⟩) n k0, .slice none 0 0, .slice none 0 0] 33)
  replace R := R.later q
  replace F := F.later q
  replace H0 := Lib.hid (H0.out.later q)
  replace H1 := Lib.hid (H1.out.later q)
  replace H2 := Lib.hid (H2.out.later q)
  replace W0 := Lib.hid (W0.out.later q)
  replace HB := Lib.hid (HB.out.trans (q.mono HB.out.size))
  clear q
  generalize w0.alloc (.cells #[.slice (some ⟨g0, 0, none⟩) n k0, .slice none 0 0, .slice none 0 0] 33) = u2 at *
  have sb : w0.heap.size < u2.heap.size := BX.lt
  have F1 := F.alloc (.cells #[] 52)
  obtain ⟨f1c, f1f⟩ := F1.open
  go_upto_region 3 with (at_builtin; refine wpList_append_own _ rfl _ _ 22 rfl u2.heap.size 52 i0 (.float .f32 0) 1 4 Try.underlying22 HI.out HZ0.out HZ1.out HZ2.out rfl (by decide) (.slice (some ⟨u2.heap.size, 0, none⟩) 0 0) 0 [] rfl (World.ownsRow_made u2 _ 0 (Nat.le_refl _) (by decide) rfl) ⟨p1, o1, none⟩ n c1 (fvals x) rfl (by rw [fvals_length, L1.out, Nat.mul_one]) (row_news (H1.out.later (below_new _ _))) fvals_one (by unfold maxLen; omega) (by omega) (by simp) ?_; intro v' w1 hown hgrow _; obtain ⟨g1, k1, hv, W1, q, z1⟩ := appended hn hown hgrow; rw [hv]; clear hv hown hgrow; obtain ⟨bc, bf⟩ := (BX.later q).open)
  clear f1c f1f F1 bc bf
  replace R := R.later q
  replace F := F.later q
  replace BX := BX.later q
  replace H0 := Lib.hid (H0.out.later q)
  replace H1 := Lib.hid (H1.out.later q)
  replace H2 := Lib.hid (H2.out.later q)
  replace W0 := Lib.hid (W0.out.later q)
  replace HB := Lib.hid (HB.out.trans (q.mono HB.out.size))
  have s1 := q.size; clear q
  have y1 := W1.bound g1 rfl
  replace W1 := Lib.hid W1
  have ot := out_set w1 w0.heap.size 1 (.slice (some ⟨g1, 0, none⟩) n k1)
  replace F := F.out ot (by omega); replace R := R.out ot (by omega)
  replace H0 := Lib.hid (H0.out.outside ot lw0 (by omega))
  replace H1 := Lib.hid (H1.out.outside ot lw1 (by omega))
  replace H2 := Lib.hid (H2.out.outside ot lw2 (by omega))
  replace W0 := Lib.hid (W0.out.outside ot (lo := _) (hi := _) (fun x hx => by cases hx; exact ⟨Nat.le_refl g0, Nat.lt_succ_self g0⟩) (by omega))
  replace W1 := Lib.hid (W1.out.outside ot (lo := _) (hi := _) (fun x hx => by cases hx; exact ⟨Nat.le_refl g1, Nat.lt_succ_self g1⟩) (by omega))
  replace BX : Blk (w1.setCell ⟨w0.heap.size, 1, none⟩ (.slice (some ⟨g1, 0, none⟩) n k1)) w0.heap.size #[.slice (some ⟨g0, 0, none⟩) n k0, .slice (some ⟨g1, 0, none⟩) n k1, .slice none 0 0] 33 := BX.set 1 _
  replace HB := Lib.hid (HB.out.setCell (p := ⟨w0.heap.size, 1, none⟩) (by dsimp only; omega) (.slice (some ⟨g1, 0, none⟩) n k1))
  clear ot
  have t1 : w1.heap.size ≤ (w1.setCell ⟨w0.heap.size, 1, none⟩ (.slice (some ⟨g1, 0, none⟩) n k1)).heap.size := by simp
  generalize w1.setCell ⟨w0.heap.size, 1, none⟩ (.slice (some ⟨g1, 0, none⟩) n k1) = u3 at *
  have F1 := F.alloc (.cells #[] 52)
  obtain ⟨f1c, f1f⟩ := F1.open
  go_upto_region 4 with (at_builtin; refine wpList_append_own _ rfl _ _ 22 rfl u3.heap.size 52 i0 (.float .f32 0) 1 4 Try.underlying22 HI.out HZ0.out HZ1.out HZ2.out rfl (by decide) (.slice (some ⟨u3.heap.size, 0, none⟩) 0 0) 0 [] rfl (World.ownsRow_made u3 _ 0 (Nat.le_refl _) (by decide) rfl) ⟨p2, o2, none⟩ n c2 (fvals y) rfl (by rw [fvals_length, L2.out, Nat.mul_one]) (row_news (H2.out.later (below_new _ _))) fvals_one (by unfold maxLen; omega) (by omega) (by simp) ?_; intro v' w2 hown hgrow _; obtain ⟨g2, k2, hv, W2, q, z2⟩ := appended hn hown hgrow; rw [hv]; clear hv hown hgrow; obtain ⟨bc, bf⟩ := (BX.later q).open)
  clear f1c f1f F1 bc bf
  replace R := R.later q
  replace F := F.later q
  replace BX := BX.later q
  replace H0 := Lib.hid (H0.out.later q)
  replace H1 := Lib.hid (H1.out.later q)
  replace H2 := Lib.hid (H2.out.later q)
  replace W0 := Lib.hid (W0.out.later q)
  replace W1 := Lib.hid (W1.out.later q)
  replace HB := Lib.hid (HB.out.trans (q.mono HB.out.size))
  have s2 := q.size; clear q
  have y2 := W2.bound g2 rfl
  replace W2 := Lib.hid W2
  have ot := out_set w2 w0.heap.size 2 (.slice (some ⟨g2, 0, none⟩) n k2)
  replace F := F.out ot (by omega); replace R := R.out ot (by omega)
  replace H0 := Lib.hid (H0.out.outside ot lw0 (by omega))
  replace H1 := Lib.hid (H1.out.outside ot lw1 (by omega))
  replace H2 := Lib.hid (H2.out.outside ot lw2 (by omega))
  replace W0 := Lib.hid (W0.out.outside ot (lo := _) (hi := _) (fun x hx => by cases hx; exact ⟨Nat.le_refl g0, Nat.lt_succ_self g0⟩) (by omega))
  replace W1 := Lib.hid (W1.out.outside ot (lo := _) (hi := _) (fun x hx => by cases hx; exact ⟨Nat.le_refl g1, Nat.lt_succ_self g1⟩) (by omega))
  replace W2 := Lib.hid (W2.out.outside ot (lo := _) (hi := _) (fun x hx => by cases hx; exact ⟨Nat.le_refl g2, Nat.lt_succ_self g2⟩) (by omega))
  replace BX : Blk (w2.setCell ⟨w0.heap.size, 2, none⟩ (.slice (some ⟨g2, 0, none⟩) n k2)) w0.heap.size #[.slice (some ⟨g0, 0, none⟩) n k0, .slice (some ⟨g1, 0, none⟩) n k1, .slice (some ⟨g2, 0, none⟩) n k2] 33 := BX.set 2 _
  replace HB := Lib.hid (HB.out.setCell (p := ⟨w0.heap.size, 2, none⟩) (by dsimp only; omega) (.slice (some ⟨g2, 0, none⟩) n k2))
  clear ot
  have t2 : w2.heap.size ≤ (w2.setCell ⟨w0.heap.size, 2, none⟩ (.slice (some ⟨g2, 0, none⟩) n k2)).heap.size := by simp
  generalize w2.setCell ⟨w0.heap.size, 2, none⟩ (.slice (some ⟨g2, 0, none⟩) n k2) = u4 at *
  obtain ⟨bc, bf⟩ := BX.open; obtain ⟨Rc, Rf⟩ := R.open
  go_wp2
  refine bodyPost_ret (v := .agg #[.slice (some ⟨g0, 0, none⟩) n k0, .slice (some ⟨g1, 0, none⟩) n k1, .slice (some ⟨g2, 0, none⟩) n k2]) (by simp [results, Try.results102, go_sem, Rc]) rfl ⟨g0, g1, g2, k0, k1, k2, rfl, ((((W0.out.lower (show w.heap.size ≤ _ by omega)).set (p := ⟨w.heap.size, 0, none⟩) (ne_block (h := w.heap.size) (by omega)) _).set (p := ⟨w.heap.size, 1, none⟩) (ne_block (h := w.heap.size) (by omega)) _).set (p := ⟨w.heap.size, 2, none⟩) (ne_block (h := w.heap.size) (by omega)) _), ((((W1.out.lower (show w.heap.size ≤ _ by omega)).set (p := ⟨w.heap.size, 0, none⟩) (ne_block (h := w.heap.size) (by omega)) _).set (p := ⟨w.heap.size, 1, none⟩) (ne_block (h := w.heap.size) (by omega)) _).set (p := ⟨w.heap.size, 2, none⟩) (ne_block (h := w.heap.size) (by omega)) _), ((((W2.out.lower (show w.heap.size ≤ _ by omega)).set (p := ⟨w.heap.size, 0, none⟩) (ne_block (h := w.heap.size) (by omega)) _).set (p := ⟨w.heap.size, 1, none⟩) (ne_block (h := w.heap.size) (by omega)) _).set (p := ⟨w.heap.size, 2, none⟩) (ne_block (h := w.heap.size) (by omega)) _), by omega, by omega, (((HB.out.setCell (p := ⟨w.heap.size, 0, none⟩) (Nat.le_refl _) _).setCell (p := ⟨w.heap.size, 1, none⟩) (Nat.le_refl _) _).setCell (p := ⟨w.heap.size, 2, none⟩) (Nat.le_refl _) _)⟩

end Go.Proofs.Ytpnfgchifclhlac

end

section

namespace Go.Proofs.Ytpnfgchifclhlac
open Go Ieee Go.RowKit
set_option linter.unusedVariables false

def valB (wd hi : Int) (wb : Bool) (xs ys e x y : List Nat) (u v : Int) : Bool := fieldB wd hi wb xs ys e x y && cellB wd hi u v
def valV (wd hi : Int) (wb : Bool) (xs ys e x y : List Nat) (u v : Int) : Nat := if valB wd hi wb xs ys e x y u v then e.getD (u + wd * v).toNat 0 else 0

theorem field_parts {wd hi : Int} {wb : Bool} {xs ys e x y : List Nat} (h : fieldB wd hi wb xs ys e x y = true) : validB wd hi xs ys = true ∧ fitsB wd hi wb e x y = true ∧ (e.length : Int) = wd * hi ∧ (x.length : Int) = wd * hi ∧ (y.length : Int) = wd * hi := by
  unfold fieldB at h
  simp only [Bool.and_eq_true] at h
  refine ⟨h.1, h.2, ?_⟩
  have := h.2
  unfold fitsB at this
  simp only [Bool.and_eq_true, decide_eq_true_eq] at this
  exact ⟨this.1.1, this.1.2.1, this.1.2.2⟩

set_option maxHeartbeats 4000000 in
theorem implValueAt (wd hi : Int) (wb : Bool) (a b : Option Addr) (ca cb : Nat) (xs ys : List Nat) (a0 a1 a2 : Option Addr) (c0 c1 c2 : Nat) (e x y : List Nat) (u v : Int) (w : World) (ha : RowV w a (fvals xs)) (hb : RowV w b (fvals ys)) (hx : xs.length ≤ maxLen) (hy : ys.length ≤ maxLen) (h0 : RowV w a0 (fvals e)) (h1 : RowV w a1 (fvals x)) (h2 : RowV w a2 (fvals y)) (m0 : e.length ≤ maxLen) (m1 : x.length ≤ maxLen) (m2 : y.length ≤ maxLen) :
    Calls Try.prog 62 #[.agg #[.int .i64 wd, .int .i64 hi, .bool wb, .slice a xs.length ca, .slice b ys.length cb], .agg #[.slice a0 e.length c0, .slice a1 x.length c1, .slice a2 y.length c2], .int .i64 u, .int .i64 v] w fun r w' => r = .returned (.tuple #[.float .f32 (valV wd hi wb xs ys e x y u v), .bool (valB wd hi wb xs ys e x y u v)]) ∧ Below w.heap.size w w' := by
  have hb0 : valB wd hi wb xs ys e x y u v = (fieldB wd hi wb xs ys e x y && cellB wd hi u v) := rfl
  have hv0 : valV wd hi wb xs ys e x y u v = if valB wd hi wb xs ys e x y u v then e.getD (u + wd * v).toNat 0 else 0 := rfl
  have HV0 := Lib.hid hb0; have HV1 := Lib.hid hv0; clear hb0 hv0
  have X := Blk.new w #[.int .i64 wd, .int .i64 hi, .bool wb, .slice a xs.length ca, .slice b ys.length cb] 31
  have Y := Blk.new1 w (.cells #[.int .i64 wd, .int .i64 hi, .bool wb, .slice a xs.length ca, .slice b ys.length cb] 31) #[.slice a0 e.length c0, .slice a1 x.length c1, .slice a2 y.length c2] 33
  replace X := X.alloc (.cells #[.slice a0 e.length c0, .slice a1 x.length c1, .slice a2 y.length c2] 33)
  have HB : Hid (Below w.heap.size w ((w.alloc (.cells #[.int .i64 wd, .int .i64 hi, .bool wb, .slice a xs.length ca, .slice b ys.length cb] 31)).alloc (.cells #[.slice a0 e.length c0, .slice a1 x.length c1, .slice a2 y.length c2] 33))) := Lib.hid (((Below.refl w.heap.size w).alloc (by simp <;> omega) _).alloc (by simp <;> omega) _)
  go_enter Try.func62, Try.ntmps62
  go_wp2_with fail
  generalize ((w.alloc (.cells #[.int .i64 wd, .int .i64 hi, .bool wb, .slice a xs.length ca, .slice b ys.length cb] 31)).alloc (.cells #[.slice a0 e.length c0, .slice a1 x.length c1, .slice a2 y.length c2] 33)) = u1 at *
  refine (implShapeOf _ _ _ _ _ _ _ _ _ _).mono ?_
  rintro r u2 ⟨rfl, q⟩
  replace X := X.later q
  replace Y := Y.later q
  replace HB := Lib.hid (HB.out.trans (q.mono HB.out.size))
  clear q
  have Z := Blk.new u2 #[.int .i64 wd, .int .i64 hi, .bool wb] 81
  have q := below_new u2 (.cells #[.int .i64 wd, .int .i64 hi, .bool wb] 81)
  replace X := X.later q
  replace Y := Y.later q
  replace HB := Lib.hid (HB.out.trans (q.mono HB.out.size))
  clear q
  have C := Blk.new1 u2 (.cells #[.int .i64 wd, .int .i64 hi, .bool wb] 81) #[.int .i64 u, .int .i64 v] 85
  have q := below_new (u2.alloc (.cells #[.int .i64 wd, .int .i64 hi, .bool wb] 81)) (.cells #[.int .i64 u, .int .i64 v] 85)
  replace X := X.later q
  replace Y := Y.later q
  replace Z := Z.later q
  replace HB := Lib.hid (HB.out.trans (q.mono HB.out.size))
  clear q
  obtain ⟨Xc, Xf⟩ := X.open
  obtain ⟨Yc, Yf⟩ := Y.open
  go_wp2_with fail
  generalize ((u2.alloc (.cells #[.int .i64 wd, .int .i64 hi, .bool wb] 81)).alloc (.cells #[.int .i64 u, .int .i64 v] 85)) = u3 at *
  refine (implIsField _ _ _ _ _ _ _ _ _ _ _ _ _ _ _ _ _ _ _ (ha.later HB.out) (hb.later HB.out) hx hy (h0.later HB.out) (h1.later HB.out) (h2.later HB.out) m0 m1 m2).mono ?_
  rintro r u4 ⟨rfl, q⟩
  clear Xc Xf
  clear Yc Yf
  replace X := X.later q
  replace Y := Y.later q
  replace Z := Z.later q
  replace C := C.later q
  replace HB := Lib.hid (HB.out.trans (q.mono HB.out.size))
  clear q
  rcases hs : fieldB wd hi wb xs ys e x y with _ | _
  · go_wp2
    go_ret2
    exact ⟨by rw [HV1.out, HV0.out, hs]; rfl, HB.out⟩
  obtain ⟨p1, p2, l0, _, _⟩ := field_parts hs
  obtain ⟨s1, s2, s3, s4, t1, t2⟩ := sides_mul (valid_sides p1)
  have L0 := Lib.hid l0; clear l0 p1 p2
  obtain ⟨Zc, Zf⟩ := Z.open
  obtain ⟨Cc, Cf⟩ := C.open
  go_wp2_with fail
  refine (implHas _ _ _ _ _ _ s1 s2 s3 s4).mono ?_
  rintro r u5 ⟨rfl, q⟩
  clear Zc Zf
  clear Cc Cf
  replace X := X.later q
  replace Y := Y.later q
  replace Z := Z.later q
  replace C := C.later q
  replace HB := Lib.hid (HB.out.trans (q.mono HB.out.size))
  clear q
  rcases hc : cellB wd hi u v with _ | _
  · go_wp2
    go_ret2
    exact ⟨by rw [HV1.out, HV0.out, hs, hc]; rfl, HB.out⟩
  obtain ⟨i1, i2, i3, i4⟩ := index_in hc t2; obtain ⟨j1, j2, j3, j4⟩ := cell_in hc
  obtain ⟨j, hj⟩ := Int.eq_ofNat_of_zero_le i2
  have hje : j < e.length := by have := L0.out; omega
  obtain ⟨bb, oo, rfl, z⟩ := h0 j _ (fvals_get hje)
  have zz := cell_on z HB.out
  have ij : (j : Int) < (e.length : Int) := by omega
  have HG := Lib.hid (getD_get hje); have HJ := Lib.hid hj
  have E1 : Hid (valV wd hi wb xs ys e x y u v = e[j] ∧ valB wd hi wb xs ys e x y u v = true) := Lib.hid ⟨by rw [HV1.out, HV0.out, hs, hc, HJ.out]; exact HG.out, by rw [HV0.out, hs, hc]; rfl⟩
  obtain ⟨Zc, Zf⟩ := Z.open
  obtain ⟨Cc, Cf⟩ := C.open
  obtain ⟨Yc, Yf⟩ := Y.open
  go_wp2_with fail
  clear Zc Zf
  clear Cc Cf
  clear Yc Yf
  go_region_held3 (fun w' => (∀ i, w'.cell? ⟨u2.heap.size, i, none⟩ = (#[.int .i64 wd, .int .i64 hi, .bool wb] : Array Value)[i]?) ∧ (∀ i, w'.cell? ⟨u2.heap.size + 1, i, none⟩ = (#[.int .i64 u, .int .i64 v] : Array Value)[i]?) ∧ (∀ i, w'.cell? ⟨w.heap.size + 1, i, none⟩ = (#[.slice (some ⟨bb, oo, none⟩) e.length c0, .slice a1 x.length c1, .slice a2 y.length c2] : Array Value)[i]?) ∧ w'.cell? ⟨bb, oo + j, none⟩ = some (.float .f32 e[j]) ∧ Below u5.heap.size u5 w') (first | exact keep3c1_start Z C Y zz | exact keep3c1_later Z C Y zz (by assumption) (by assumption))
    (first
      | (go_at_call 70; (with_reducible refine (implIndexOf _ _ _ _ _ _ i1 i4 j1 (by omega)).mono ?_); rintro r u6 ⟨rfl, qa0⟩))
  have q := (below_next (below_drew u5) qa0)
  clear qa0
  replace X := X.later q
  replace Y := Y.later q
  replace Z := Z.later q
  replace C := C.later q
  replace HB := Lib.hid (HB.out.trans (q.mono HB.out.size))
  clear q
  go_wp2
  go_ret2
  exact ⟨by rw [E1.out.1, E1.out.2]; rfl, HB.out⟩

theorem valB_split (wd hi : Int) (wb : Bool) (xs ys e x y : List Nat) : fieldB wd hi wb xs ys e x y = (validB wd hi xs ys && fitsB wd hi wb e x y) := rfl

theorem valV_lt {wd hi : Int} {wb : Bool} {xs ys e x y : List Nat} {u v : Int} (h : ∀ z ∈ e, z < 2 ^ 32) : valV wd hi wb xs ys e x y u v < 2 ^ 32 := by
  unfold valV
  split
  · rw [List.getD_eq_getElem?_getD]
    cases k : e[(u + wd * v).toNat]? with
    | none => decide
    | some z => exact h _ (List.mem_of_getElem? k)
  · decide

theorem implValueAtL (wd hi : Int) (wb : Bool) (a b : Option Addr) (ca cb : Nat) (xs ys : List Nat) (a0 a1 a2 : Option Addr) (c0 c1 c2 : Nat) (e x y : List Nat) (u v : Int) (w : World) (ha : RowV w a (fvals xs)) (hb : RowV w b (fvals ys)) (qa : ∀ z ∈ xs, z < 2 ^ 32) (qb : ∀ z ∈ ys, z < 2 ^ 32) (hx : xs.length ≤ maxLen) (hy : ys.length ≤ maxLen) (h0 : RowV w a0 (fvals e)) (h1 : RowV w a1 (fvals x)) (h2 : RowV w a2 (fvals y)) (q0 : ∀ z ∈ e, z < 2 ^ 32) (q1 : ∀ z ∈ x, z < 2 ^ 32) (q2 : ∀ z ∈ y, z < 2 ^ 32) (m0 : e.length ≤ maxLen) (m1 : x.length ≤ maxLen) (m2 : y.length ≤ maxLen) (wu : (Lit.int .i64 u).wf = true) (wv : (Lit.int .i64 v).wf = true) :
    Calls Try.prog 62 #[.agg #[.int .i64 wd, .int .i64 hi, .bool wb, .slice a xs.length ca, .slice b ys.length cb], .agg #[.slice a0 e.length c0, .slice a1 x.length c1, .slice a2 y.length c2], .int .i64 u, .int .i64 v] w fun r w' => ∃ z : Nat, r = .returned (.tuple #[.float .f32 z, .bool (valB wd hi wb xs ys e x y u v)]) ∧ canon .f32 z = canon .f32 (valV wd hi wb xs ys e x y u v) ∧ z < 2 ^ 32 ∧ Below w.heap.size w w' :=
  (implValueAt _ _ _ _ _ _ _ _ _ _ _ _ _ _ _ _ _ _ _ _ _ ha hb hx hy h0 h1 h2 m0 m1 m2).mono fun _ _ ⟨h, b⟩ => ⟨_, h, rfl, valV_lt q0, b⟩

end Go.Proofs.Ytpnfgchifclhlac

end

section

namespace Go.Proofs.Ytpnfgchifclhlac
open Go Ieee Go.RowKit
set_option linter.unusedVariables false

def putB (wd hi : Int) (wb : Bool) (xs ys e x y : List Nat) (u v : Int) (z : Nat) : Bool := fieldB wd hi wb xs ys e x y && (cellB wd hi u v && !(bordB wb wd hi u v && nzB z))
def putE (wd hi : Int) (wb : Bool) (xs ys e x y : List Nat) (u v : Int) (z : Nat) : List (Option Nat) := if putB wd hi wb xs ys e x y u v z then (cl e).set (u + wd * v).toNat (canon .f32 z) else []
def putO (wd hi : Int) (wb : Bool) (xs ys e x y : List Nat) (u v : Int) (z : Nat) (l : List Nat) : List (Option Nat) := if putB wd hi wb xs ys e x y u v z then cl l else []

theorem own_some {w : World} {B g : Nat} {vs : List Value} (h : OwnV w B (some ⟨g, 0, none⟩) vs) : ∃ cs t, B ≤ g ∧ Blk w g cs t ∧ ∀ (i : Nat) (u : Value), vs[i]? = some u → cs[i]? = some u := by
  rcases h with ⟨h, _⟩ | ⟨g', cs, t, h, hb, hc, hv⟩
  · cases h
  · cases h; exact ⟨cs, t, hb, hc, hv⟩

theorem own_put {w : World} {B g : Nat} {vs : List Value} (h : OwnV w B (some ⟨g, 0, none⟩) vs) (j : Nat) (v : Value) (hj : j < vs.length) : OwnV (w.setCell ⟨g, j, none⟩ v) B (some ⟨g, 0, none⟩) (vs.set j v) := by
  obtain ⟨cs, t, hb, hc, hv⟩ := own_some h
  refine .inr ⟨g, cs.setIfInBounds j v, t, rfl, hb, hc.set j v, fun i u hu => ?_⟩
  have hsz : j < cs.size := (Array.getElem?_eq_some_iff.1 (hv j _ (List.getElem?_eq_getElem hj))).1
  rw [List.getElem?_set] at hu
  rw [Array.getElem?_setIfInBounds]
  by_cases e : j = i
  · subst e
    rw [if_pos rfl] at hu ⊢
    rw [if_pos hj] at hu
    rw [if_pos hsz]; exact hu
  · rw [if_neg e] at hu ⊢
    exact hv i u hu

theorem fvals_set (xs : List Nat) (j z : Nat) : (fvals xs).set j (.float .f32 z) = fvals (xs.set j z) := by unfold fvals; rw [List.map_set]

theorem is_set {xs : List Nat} (h : ∀ x ∈ xs, x < 2 ^ 32) (n : xs.length ≤ 256) (j z : Nat) (hz : z < 2 ^ 32) : Is (xs.set j z) ((cl xs).set j (canon .f32 z)) :=
  ⟨(by unfold cl; rw [List.map_set]), (fun x hx => by
    rcases List.mem_or_eq_of_mem_set hx with h' | h'
    · exact h _ h'
    · rw [h']; exact hz), (by rw [List.length_set]; exact n)⟩

set_option maxHeartbeats 8000000 in
set_option maxRecDepth 100000 in
theorem implPutValueL (wd hi : Int) (wb : Bool) (a b : Option Addr) (ca cb : Nat) (xs ys : List Nat) (a0 a1 a2 : Option Addr) (c0 c1 c2 : Nat) (e x y : List Nat) (u v : Int) (z : Nat) (w : World) (ha : RowV w a (fvals xs)) (hb : RowV w b (fvals ys)) (qa : ∀ z ∈ xs, z < 2 ^ 32) (qb : ∀ z ∈ ys, z < 2 ^ 32) (hx : xs.length ≤ maxLen) (hy : ys.length ≤ maxLen) (h0 : RowV w a0 (fvals e)) (h1 : RowV w a1 (fvals x)) (h2 : RowV w a2 (fvals y)) (q0 : ∀ z ∈ e, z < 2 ^ 32) (q1 : ∀ z ∈ x, z < 2 ^ 32) (q2 : ∀ z ∈ y, z < 2 ^ 32) (m0 : e.length ≤ maxLen) (m1 : x.length ≤ maxLen) (m2 : y.length ≤ maxLen) (wu : (Lit.int .i64 u).wf = true) (wv : (Lit.int .i64 v).wf = true) (wz : z < 2 ^ 32) :
    Calls Try.prog 40 #[.agg #[.int .i64 wd, .int .i64 hi, .bool wb, .slice a xs.length ca, .slice b ys.length cb], .agg #[.slice a0 e.length c0, .slice a1 x.length c1, .slice a2 y.length c2], .int .i64 u, .int .i64 v, .float .f32 z] w fun r w' => ∃ (a0 a1 a2 : Option Addr) (c0 c1 c2 : Nat) (y0 y1 y2 : List Nat), r = .returned (.tuple #[.agg #[.slice a0 y0.length c0, .slice a1 y1.length c1, .slice a2 y2.length c2], .bool (putB wd hi wb xs ys e x y u v z)]) ∧ GotField w.heap.size w w' (putE wd hi wb xs ys e x y u v z) (putO wd hi wb xs ys e x y u v z x) (putO wd hi wb xs ys e x y u v z y) a0 a1 a2 y0 y1 y2 := by
  have hp0 : putB wd hi wb xs ys e x y u v z = (fieldB wd hi wb xs ys e x y && (cellB wd hi u v && !(bordB wb wd hi u v && nzB z))) := rfl
  have HP0 := Lib.hid hp0; clear hp0
  have hm : putB wd hi wb xs ys e x y u v z = false → putE wd hi wb xs ys e x y u v z = [] ∧ putO wd hi wb xs ys e x y u v z x = [] ∧ putO wd hi wb xs ys e x y u v z y = [] := fun h => by unfold putE putO; rw [h]; exact ⟨rfl, rfl, rfl⟩
  have HM := Lib.hid hm; clear hm
  have hk : putB wd hi wb xs ys e x y u v z = true → putE wd hi wb xs ys e x y u v z = (cl e).set (u + wd * v).toNat (canon .f32 z) ∧ putO wd hi wb xs ys e x y u v z x = cl x ∧ putO wd hi wb xs ys e x y u v z y = cl y := fun h => by unfold putE putO; rw [h]; exact ⟨rfl, rfl, rfl⟩
  have HK := Lib.hid hk; clear hk
  have Hqa := Lib.hid qa; clear qa
  have Hqb := Lib.hid qb; clear qb
  have Hq0 := Lib.hid q0; clear q0
  have Hq1 := Lib.hid q1; clear q1
  have Hq2 := Lib.hid q2; clear q2
  have X := Blk.new w #[.int .i64 wd, .int .i64 hi, .bool wb, .slice a xs.length ca, .slice b ys.length cb] 31
  have Y := Blk.new1 w (.cells #[.int .i64 wd, .int .i64 hi, .bool wb, .slice a xs.length ca, .slice b ys.length cb] 31) #[.slice a0 e.length c0, .slice a1 x.length c1, .slice a2 y.length c2] 33
  replace X := X.alloc (.cells #[.slice a0 e.length c0, .slice a1 x.length c1, .slice a2 y.length c2] 33)
  have R := Blk.new2 w (.cells #[.int .i64 wd, .int .i64 hi, .bool wb, .slice a xs.length ca, .slice b ys.length cb] 31) (.cells #[.slice a0 e.length c0, .slice a1 x.length c1, .slice a2 y.length c2] 33) #[.slice none 0 0, .slice none 0 0, .slice none 0 0] 33
  replace X := X.alloc (.cells #[.slice none 0 0, .slice none 0 0, .slice none 0 0] 33)
  replace Y := Y.alloc (.cells #[.slice none 0 0, .slice none 0 0, .slice none 0 0] 33)
  have HB : Hid (Below w.heap.size w (((w.alloc (.cells #[.int .i64 wd, .int .i64 hi, .bool wb, .slice a xs.length ca, .slice b ys.length cb] 31)).alloc (.cells #[.slice a0 e.length c0, .slice a1 x.length c1, .slice a2 y.length c2] 33)).alloc (.cells #[.slice none 0 0, .slice none 0 0, .slice none 0 0] 33))) := Lib.hid ((((Below.refl w.heap.size w).alloc (by simp <;> omega) _).alloc (by simp <;> omega) _).alloc (by simp <;> omega) _)
  go_enter Try.func40, Try.ntmps40
  go_wp2_with fail
  generalize (((w.alloc (.cells #[.int .i64 wd, .int .i64 hi, .bool wb, .slice a xs.length ca, .slice b ys.length cb] 31)).alloc (.cells #[.slice a0 e.length c0, .slice a1 x.length c1, .slice a2 y.length c2] 33)).alloc (.cells #[.slice none 0 0, .slice none 0 0, .slice none 0 0] 33)) = u1 at *
  have zr0 := R.lt
  refine (implShapeOf _ _ _ _ _ _ _ _ _ _).mono ?_
  rintro r u2 ⟨rfl, q⟩
  have sz2 : u1.heap.size ≤ u2.heap.size := q.size
  replace X := X.later q
  replace Y := Y.later q
  replace R := R.later q
  replace HB := Lib.hid (HB.out.trans (q.mono HB.out.size))
  clear q
  have SZZ : w.heap.size + 1 + 1 < u2.heap.size + 0 := Nat.lt_of_lt_of_le R.lt (Nat.le_add_right _ _)
  have Z := Blk.new u2 #[.int .i64 wd, .int .i64 hi, .bool wb] 81
  have q := below_new u2 (.cells #[.int .i64 wd, .int .i64 hi, .bool wb] 81)
  replace X := X.later q
  replace Y := Y.later q
  replace R := R.later q
  replace HB := Lib.hid (HB.out.trans (q.mono HB.out.size))
  clear q
  have SZC := SZZ
  have C := Blk.new1 u2 (.cells #[.int .i64 wd, .int .i64 hi, .bool wb] 81) #[.int .i64 u, .int .i64 v] 85
  have q := below_new (u2.alloc (.cells #[.int .i64 wd, .int .i64 hi, .bool wb] 81)) (.cells #[.int .i64 u, .int .i64 v] 85)
  replace X := X.later q
  replace Y := Y.later q
  replace R := R.later q
  replace Z := Z.later q
  replace HB := Lib.hid (HB.out.trans (q.mono HB.out.size))
  clear q
  obtain ⟨Xc, Xf⟩ := X.open
  obtain ⟨Yc, Yf⟩ := Y.open
  go_wp2_with fail
  generalize ((u2.alloc (.cells #[.int .i64 wd, .int .i64 hi, .bool wb] 81)).alloc (.cells #[.int .i64 u, .int .i64 v] 85)) = u3 at *
  have sz3 : u2.heap.size + 1 < u3.heap.size := C.lt
  refine (implIsField _ _ _ _ _ _ _ _ _ _ _ _ _ _ _ _ _ _ _ (ha.later HB.out) (hb.later HB.out) hx hy (h0.later HB.out) (h1.later HB.out) (h2.later HB.out) m0 m1 m2).mono ?_
  rintro r u4 ⟨rfl, q⟩
  have sz4 : u3.heap.size ≤ u4.heap.size := q.size
  clear Xc Xf
  clear Yc Yf
  replace X := X.later q
  replace Y := Y.later q
  replace R := R.later q
  replace Z := Z.later q
  replace C := C.later q
  replace HB := Lib.hid (HB.out.trans (q.mono HB.out.size))
  clear q
  rcases hs : fieldB wd hi wb xs ys e x y with _ | _
  · skip
    have hn : putB wd hi wb xs ys e x y u v z = false := by rw [HP0.out, hs]; rfl
    obtain ⟨n0, n1, n2⟩ := HM.out hn
    have N0 := Lib.hid n0; have N1 := Lib.hid n1; have N2 := Lib.hid n2; have NN := Lib.hid hn; clear n0 n1 n2 hn
    obtain ⟨Rc, Rf⟩ := R.open
    go_wp2
    refine bodyPost_ret (v := .tuple #[.agg #[.slice none 0 0, .slice none 0 0, .slice none 0 0], .bool false]) (by simp [results, Try.results40, go_sem, Rc]) rfl ⟨none, none, none, 0, 0, 0, [], [], [], by rw [NN.out]; rfl, by rw [N0.out, N1.out, N2.out]; exact GotField.none (((HB.out.setCell (p := ⟨w.heap.size + 1 + 1, 0, none⟩) (by first | omega | (simp <;> omega)) _).setCell (p := ⟨w.heap.size + 1 + 1, 1, none⟩) (by first | omega | (simp <;> omega)) _).setCell (p := ⟨w.heap.size + 1 + 1, 2, none⟩) (by first | omega | (simp <;> omega)) _)⟩
  obtain ⟨p1, p2, l0, l1, l2⟩ := field_parts hs
  obtain ⟨s1, s2, s3, s4, t1, t2⟩ := sides_mul (valid_sides p1)
  have L0 := Lib.hid l0; have L1 := Lib.hid l1; have L2 := Lib.hid l2; clear l0 l1 l2 p1 p2
  obtain ⟨Zc, Zf⟩ := Z.open
  obtain ⟨Cc, Cf⟩ := C.open
  go_wp2_with fail
  refine (implHas _ _ _ _ _ _ s1 s2 s3 s4).mono ?_
  rintro r u5 ⟨rfl, q⟩
  have sz5 : u4.heap.size ≤ u5.heap.size := q.size
  clear Zc Zf
  clear Cc Cf
  replace X := X.later q
  replace Y := Y.later q
  replace R := R.later q
  replace Z := Z.later q
  replace C := C.later q
  replace HB := Lib.hid (HB.out.trans (q.mono HB.out.size))
  clear q
  rcases hc : cellB wd hi u v with _ | _
  · skip
    have hn : putB wd hi wb xs ys e x y u v z = false := by rw [HP0.out, hs, hc]; rfl
    obtain ⟨n0, n1, n2⟩ := HM.out hn
    have N0 := Lib.hid n0; have N1 := Lib.hid n1; have N2 := Lib.hid n2; have NN := Lib.hid hn; clear n0 n1 n2 hn
    obtain ⟨Rc, Rf⟩ := R.open
    go_wp2
    refine bodyPost_ret (v := .tuple #[.agg #[.slice none 0 0, .slice none 0 0, .slice none 0 0], .bool false]) (by simp [results, Try.results40, go_sem, Rc]) rfl ⟨none, none, none, 0, 0, 0, [], [], [], by rw [NN.out]; rfl, by rw [N0.out, N1.out, N2.out]; exact GotField.none (((HB.out.setCell (p := ⟨w.heap.size + 1 + 1, 0, none⟩) (by first | omega | (simp <;> omega)) _).setCell (p := ⟨w.heap.size + 1 + 1, 1, none⟩) (by first | omega | (simp <;> omega)) _).setCell (p := ⟨w.heap.size + 1 + 1, 2, none⟩) (by first | omega | (simp <;> omega)) _)⟩
  obtain ⟨Zc, Zf⟩ := Z.open
  obtain ⟨Cc, Cf⟩ := C.open
  go_wp2_with fail
  refine (implBorder _ _ _ _ _ _ s1 s2 s3 s4).mono ?_
  rintro r u6 ⟨rfl, q⟩
  have sz6 : u5.heap.size ≤ u6.heap.size := q.size
  clear Zc Zf
  clear Cc Cf
  replace X := X.later q
  replace Y := Y.later q
  replace R := R.later q
  replace Z := Z.later q
  replace C := C.later q
  replace HB := Lib.hid (HB.out.trans (q.mono HB.out.size))
  clear q
  rcases bd : bordB wb wd hi u v with _ | _
  · skip
    have hn : putB wd hi wb xs ys e x y u v z = true := by rw [HP0.out, hs, hc, bd]; rfl
    obtain ⟨n0, n1, n2⟩ := HK.out hn
    have N0 := Lib.hid n0; have N1 := Lib.hid n1; have N2 := Lib.hid n2; have NN := Lib.hid hn; clear n0 n1 n2 hn
    obtain ⟨i1, i2, i3, i4⟩ := index_in hc t2; obtain ⟨j1, j2, j3, j4⟩ := cell_in hc
    obtain ⟨j, hj⟩ := Int.eq_ofNat_of_zero_le i2
    have hje : j < e.length := by have := L0.out; omega
    have ij : (j : Int) < (e.length : Int) := by omega
    have HJ := Lib.hid hj
    have ne : e.length ≤ 256 := by have := L0.out; omega
    have nx : x.length ≤ 256 := by have := L1.out; omega
    have ny : y.length ≤ 256 := by have := L2.out; omega
    have gx : 0 < x.length := by have := L1.out; omega
    have gy : 0 < y.length := by have := L2.out; omega
    obtain ⟨pe, oe, rfl, ze⟩ := h0 0 _ (fvals_get (show 0 < e.length by omega))
    obtain ⟨px, ox, rfl, zx⟩ := h1 0 _ (fvals_get gx)
    obtain ⟨py, oy, rfl, zy⟩ := h2 0 _ (fvals_get gy)
    clear ze zx zy
    obtain ⟨Yc, Yf⟩ := Y.open
    go_wp2_with fail
    refine (implClone _ _ _ _ _ (h0.later HB.out) (by omega) (by omega)).mono ?_
    rintro r u7 ⟨g0, k0, rfl, W0, q⟩
    have sz7 : u6.heap.size ≤ u7.heap.size := q.size
    clear Yc Yf
    replace X := X.later q
    replace Y := Y.later q
    replace R := R.later q
    replace Z := Z.later q
    replace C := C.later q
    replace HB := Lib.hid (HB.out.trans (q.mono HB.out.size))
    clear q
    have zg := W0.bound g0 rfl; have zh := W0.span _ rfl; dsimp only at zh
    replace W0 := Lib.hid W0
    obtain ⟨Zc, Zf⟩ := Z.open
    obtain ⟨Cc, Cf⟩ := C.open
    go_wp2_with fail
    refine (implIndexOf _ _ _ _ _ _ i1 i4 j1 (by omega)).mono ?_
    rintro r u8 ⟨rfl, q⟩
    have sz8 : u7.heap.size ≤ u8.heap.size := q.size
    clear Zc Zf
    clear Cc Cf
    replace X := X.later q
    replace Y := Y.later q
    replace R := R.later q
    replace Z := Z.later q
    replace C := C.later q
    replace W0 := Lib.hid (W0.out.later q)
    replace HB := Lib.hid (HB.out.trans (q.mono HB.out.size))
    clear q
    obtain ⟨cs, ct, _, wb0, wv⟩ := own_some W0.out
    obtain ⟨wc, wf⟩ := wb0.open
    have wj := wv j _ (fvals_get hje)
    have wc0 := wc j; rw [wj] at wc0; have wf0 := wf j
    clear wc wf wv wj wb0
    have hset : u8.heap.size ≤ (u8.setCell ⟨g0, j, none⟩ (.float .f32 z)).heap.size := by simp
    have W1 := Lib.hid (own_put W0.out j (.float .f32 z) (by rw [fvals_length]; exact hje)); clear W0
    rw [fvals_set] at W1
    have ot := out_set u8 g0 j (.float .f32 z)
    have zr := R.lt
    have zz := Z.lt; have zc := C.lt; have zy := Y.lt; have zx := X.lt
    replace X := X.out ot (by omega)
    replace Y := Y.out ot (by omega)
    replace R := R.out ot (by omega)
    replace Z := Z.out ot (by omega)
    replace C := C.out ot (by omega)
    replace HB := Lib.hid (HB.out.setCell (p := ⟨g0, j, none⟩) (by dsimp only; have := HB.out.size; omega) (.float .f32 z))
    clear ot
    obtain ⟨Yc, Yf⟩ := Y.open
    go_wp2_with fail
    clear wc0 wf0
    clear Yc Yf
    generalize u8.setCell ⟨g0, j, none⟩ (.float .f32 z) = u9 at *
    have z7 := R.lt; have z6 := HB.out.size
    have zW := W1.out.span _ rfl; dsimp only at zW
    have b6 := HB.out; have hR : w.heap.size ≤ w.heap.size + 1 + 1 := by omega
    obtain ⟨Yc, Yf⟩ := Y.open
    clear Yc Yf
    have neY : w.heap.size + 1 ≠ w.heap.size + 1 + 1 := by omega
    have tk0 : True := trivial
    have tk1 : True := trivial
    go_region_held3 (fun w' => (∀ i, w'.cell? ⟨w.heap.size + 1, i, none⟩ = (#[.slice (some ⟨pe, oe, none⟩) e.length c0, .slice (some ⟨px, ox, none⟩) x.length c1, .slice (some ⟨py, oy, none⟩) y.length c2] : Array Value)[i]?) ∧ u9.grownBy w' (some (w.heap.size + 1 + 1))) (first | exact keepR1_start Y | exact keepR1_later Y neY (by assumption) (by assumption) | exact keepR1_set3 Y neY (by assumption) _ _ _)
      (first
        | (go_at_call 97; have _t := tk0; clear _t tk0; (with_reducible refine (implClone _ _ _ _ _ (row_heldR1 h1 b6 hR (by assumption)) gx (by omega)).mono ?_); rintro r u10 ⟨g1, k1, rfl, oo0, qa0⟩)
        | (go_at_call 97; have _t := tk1; clear _t tk1; (with_reducible refine (implClone _ _ _ _ _ (row_heldR1 h2 b6 hR (by assumption)) gy (by omega)).mono ?_); rintro r u11 ⟨g2, k2, rfl, oo1, qa1⟩; obtain ⟨Rc, Rf⟩ := (R.later (below_next (below_next (below_drew u9) qa0) qa1)).open))
    go_wp2
    have b1 : u9.heap.size ≤ g1 := oo0.bound g1 rfl; have b2 : u10.heap.size ≤ g2 := oo1.bound g2 rfl
    have z1 : u9.heap.size ≤ u10.heap.size := qa0.size; have z2 := qa1.size
    have z3 := (oo0.span _ rfl).2; dsimp only at z3
    refine bodyPost_ret (v := .tuple #[.agg #[.slice (some ⟨g0, 0, none⟩) e.length k0, .slice (some ⟨g1, 0, none⟩) x.length k1, .slice (some ⟨g2, 0, none⟩) y.length k2], .bool true]) (by simp [results, Try.results40, go_sem, Rc]) rfl ⟨some ⟨g0, 0, none⟩, some ⟨g1, 0, none⟩, some ⟨g2, 0, none⟩, k0, k1, k2, e.set j z, x, y, by rw [NN.out, List.length_set], by rw [N0.out, N1.out, N2.out, HJ.out, Int.toNat_natCast]; exact ⟨((((((W1.out.later (below_next (below_next (below_drew _) qa0) qa1))).lower (show w.heap.size ≤ _ by first | omega | exact z6)).set (p := ⟨w.heap.size + 1 + 1, 0, none⟩) (ne_block (h := w.heap.size + 1 + 1) (by omega)) _).set (p := ⟨w.heap.size + 1 + 1, 1, none⟩) (ne_block (h := w.heap.size + 1 + 1) (by omega)) _).set (p := ⟨w.heap.size + 1 + 1, 2, none⟩) (ne_block (h := w.heap.size + 1 + 1) (by omega)) _), (((((oo0.later qa1).lower (show w.heap.size ≤ _ by first | omega | exact z6)).set (p := ⟨w.heap.size + 1 + 1, 0, none⟩) (ne_block (h := w.heap.size + 1 + 1) (by omega)) _).set (p := ⟨w.heap.size + 1 + 1, 1, none⟩) (ne_block (h := w.heap.size + 1 + 1) (by omega)) _).set (p := ⟨w.heap.size + 1 + 1, 2, none⟩) (ne_block (h := w.heap.size + 1 + 1) (by omega)) _), (((((oo1).lower (show w.heap.size ≤ _ by first | omega | exact z6)).set (p := ⟨w.heap.size + 1 + 1, 0, none⟩) (ne_block (h := w.heap.size + 1 + 1) (by omega)) _).set (p := ⟨w.heap.size + 1 + 1, 1, none⟩) (ne_block (h := w.heap.size + 1 + 1) (by omega)) _).set (p := ⟨w.heap.size + 1 + 1, 2, none⟩) (ne_block (h := w.heap.size + 1 + 1) (by omega)) _), apart_ne (by omega), apart_ne (by omega), apart_ne (by omega), is_set Hq0.out ne j z wz, Is.refl Hq1.out nx, Is.refl Hq2.out ny, ((((HB.out.trans ((below_next (below_next (below_drew u9) qa0) qa1).mono HB.out.size)).setCell (p := ⟨w.heap.size + 1 + 1, 0, none⟩) (by first | omega | (simp <;> omega)) _).setCell (p := ⟨w.heap.size + 1 + 1, 1, none⟩) (by first | omega | (simp <;> omega)) _).setCell (p := ⟨w.heap.size + 1 + 1, 2, none⟩) (by first | omega | (simp <;> omega)) _)⟩⟩
  rcases nz : nzB z with _ | _
  · skip
    have hn : putB wd hi wb xs ys e x y u v z = true := by rw [HP0.out, hs, hc, bd, nz]; rfl
    obtain ⟨n0, n1, n2⟩ := HK.out hn
    have N0 := Lib.hid n0; have N1 := Lib.hid n1; have N2 := Lib.hid n2; have NN := Lib.hid hn; clear n0 n1 n2 hn
    unfold nzB at nz
    obtain ⟨i1, i2, i3, i4⟩ := index_in hc t2; obtain ⟨j1, j2, j3, j4⟩ := cell_in hc
    obtain ⟨j, hj⟩ := Int.eq_ofNat_of_zero_le i2
    have hje : j < e.length := by have := L0.out; omega
    have ij : (j : Int) < (e.length : Int) := by omega
    have HJ := Lib.hid hj
    have ne : e.length ≤ 256 := by have := L0.out; omega
    have nx : x.length ≤ 256 := by have := L1.out; omega
    have ny : y.length ≤ 256 := by have := L2.out; omega
    have gx : 0 < x.length := by have := L1.out; omega
    have gy : 0 < y.length := by have := L2.out; omega
    obtain ⟨pe, oe, rfl, ze⟩ := h0 0 _ (fvals_get (show 0 < e.length by omega))
    obtain ⟨px, ox, rfl, zx⟩ := h1 0 _ (fvals_get gx)
    obtain ⟨py, oy, rfl, zy⟩ := h2 0 _ (fvals_get gy)
    clear ze zx zy
    obtain ⟨Yc, Yf⟩ := Y.open
    go_wp2_with fail
    refine (implClone _ _ _ _ _ (h0.later HB.out) (by omega) (by omega)).mono ?_
    rintro r u12 ⟨g0, k0, rfl, W0, q⟩
    have sz12 : u6.heap.size ≤ u12.heap.size := q.size
    clear Yc Yf
    replace X := X.later q
    replace Y := Y.later q
    replace R := R.later q
    replace Z := Z.later q
    replace C := C.later q
    replace HB := Lib.hid (HB.out.trans (q.mono HB.out.size))
    clear q
    have zg := W0.bound g0 rfl; have zh := W0.span _ rfl; dsimp only at zh
    replace W0 := Lib.hid W0
    obtain ⟨Zc, Zf⟩ := Z.open
    obtain ⟨Cc, Cf⟩ := C.open
    go_wp2_with fail
    refine (implIndexOf _ _ _ _ _ _ i1 i4 j1 (by omega)).mono ?_
    rintro r u13 ⟨rfl, q⟩
    have sz13 : u12.heap.size ≤ u13.heap.size := q.size
    clear Zc Zf
    clear Cc Cf
    replace X := X.later q
    replace Y := Y.later q
    replace R := R.later q
    replace Z := Z.later q
    replace C := C.later q
    replace W0 := Lib.hid (W0.out.later q)
    replace HB := Lib.hid (HB.out.trans (q.mono HB.out.size))
    clear q
    obtain ⟨cs, ct, _, wb0, wv⟩ := own_some W0.out
    obtain ⟨wc, wf⟩ := wb0.open
    have wj := wv j _ (fvals_get hje)
    have wc0 := wc j; rw [wj] at wc0; have wf0 := wf j
    clear wc wf wv wj wb0
    have hset : u13.heap.size ≤ (u13.setCell ⟨g0, j, none⟩ (.float .f32 z)).heap.size := by simp
    have W1 := Lib.hid (own_put W0.out j (.float .f32 z) (by rw [fvals_length]; exact hje)); clear W0
    rw [fvals_set] at W1
    have ot := out_set u13 g0 j (.float .f32 z)
    have zr := R.lt
    have zz := Z.lt; have zc := C.lt; have zy := Y.lt; have zx := X.lt
    replace X := X.out ot (by omega)
    replace Y := Y.out ot (by omega)
    replace R := R.out ot (by omega)
    replace Z := Z.out ot (by omega)
    replace C := C.out ot (by omega)
    replace HB := Lib.hid (HB.out.setCell (p := ⟨g0, j, none⟩) (by dsimp only; have := HB.out.size; omega) (.float .f32 z))
    clear ot
    obtain ⟨Yc, Yf⟩ := Y.open
    go_wp2_with fail
    clear wc0 wf0
    clear Yc Yf
    generalize u13.setCell ⟨g0, j, none⟩ (.float .f32 z) = u14 at *
    have z7 := R.lt; have z6 := HB.out.size
    have zW := W1.out.span _ rfl; dsimp only at zW
    have b6 := HB.out; have hR : w.heap.size ≤ w.heap.size + 1 + 1 := by omega
    obtain ⟨Yc, Yf⟩ := Y.open
    clear Yc Yf
    have neY : w.heap.size + 1 ≠ w.heap.size + 1 + 1 := by omega
    have tk0 : True := trivial
    have tk1 : True := trivial
    go_region_held3 (fun w' => (∀ i, w'.cell? ⟨w.heap.size + 1, i, none⟩ = (#[.slice (some ⟨pe, oe, none⟩) e.length c0, .slice (some ⟨px, ox, none⟩) x.length c1, .slice (some ⟨py, oy, none⟩) y.length c2] : Array Value)[i]?) ∧ u14.grownBy w' (some (w.heap.size + 1 + 1))) (first | exact keepR1_start Y | exact keepR1_later Y neY (by assumption) (by assumption) | exact keepR1_set3 Y neY (by assumption) _ _ _)
      (first
        | (go_at_call 97; have _t := tk0; clear _t tk0; (with_reducible refine (implClone _ _ _ _ _ (row_heldR1 h1 b6 hR (by assumption)) gx (by omega)).mono ?_); rintro r u15 ⟨g1, k1, rfl, oo0, qa0⟩)
        | (go_at_call 97; have _t := tk1; clear _t tk1; (with_reducible refine (implClone _ _ _ _ _ (row_heldR1 h2 b6 hR (by assumption)) gy (by omega)).mono ?_); rintro r u16 ⟨g2, k2, rfl, oo1, qa1⟩; obtain ⟨Rc, Rf⟩ := (R.later (below_next (below_next (below_drew u14) qa0) qa1)).open))
    go_wp2
    have b1 : u14.heap.size ≤ g1 := oo0.bound g1 rfl; have b2 : u15.heap.size ≤ g2 := oo1.bound g2 rfl
    have z1 : u14.heap.size ≤ u15.heap.size := qa0.size; have z2 := qa1.size
    have z3 := (oo0.span _ rfl).2; dsimp only at z3
    refine bodyPost_ret (v := .tuple #[.agg #[.slice (some ⟨g0, 0, none⟩) e.length k0, .slice (some ⟨g1, 0, none⟩) x.length k1, .slice (some ⟨g2, 0, none⟩) y.length k2], .bool true]) (by simp [results, Try.results40, go_sem, Rc]) rfl ⟨some ⟨g0, 0, none⟩, some ⟨g1, 0, none⟩, some ⟨g2, 0, none⟩, k0, k1, k2, e.set j z, x, y, by rw [NN.out, List.length_set], by rw [N0.out, N1.out, N2.out, HJ.out, Int.toNat_natCast]; exact ⟨((((((W1.out.later (below_next (below_next (below_drew _) qa0) qa1))).lower (show w.heap.size ≤ _ by first | omega | exact z6)).set (p := ⟨w.heap.size + 1 + 1, 0, none⟩) (ne_block (h := w.heap.size + 1 + 1) (by omega)) _).set (p := ⟨w.heap.size + 1 + 1, 1, none⟩) (ne_block (h := w.heap.size + 1 + 1) (by omega)) _).set (p := ⟨w.heap.size + 1 + 1, 2, none⟩) (ne_block (h := w.heap.size + 1 + 1) (by omega)) _), (((((oo0.later qa1).lower (show w.heap.size ≤ _ by first | omega | exact z6)).set (p := ⟨w.heap.size + 1 + 1, 0, none⟩) (ne_block (h := w.heap.size + 1 + 1) (by omega)) _).set (p := ⟨w.heap.size + 1 + 1, 1, none⟩) (ne_block (h := w.heap.size + 1 + 1) (by omega)) _).set (p := ⟨w.heap.size + 1 + 1, 2, none⟩) (ne_block (h := w.heap.size + 1 + 1) (by omega)) _), (((((oo1).lower (show w.heap.size ≤ _ by first | omega | exact z6)).set (p := ⟨w.heap.size + 1 + 1, 0, none⟩) (ne_block (h := w.heap.size + 1 + 1) (by omega)) _).set (p := ⟨w.heap.size + 1 + 1, 1, none⟩) (ne_block (h := w.heap.size + 1 + 1) (by omega)) _).set (p := ⟨w.heap.size + 1 + 1, 2, none⟩) (ne_block (h := w.heap.size + 1 + 1) (by omega)) _), apart_ne (by omega), apart_ne (by omega), apart_ne (by omega), is_set Hq0.out ne j z wz, Is.refl Hq1.out nx, Is.refl Hq2.out ny, ((((HB.out.trans ((below_next (below_next (below_drew u14) qa0) qa1).mono HB.out.size)).setCell (p := ⟨w.heap.size + 1 + 1, 0, none⟩) (by first | omega | (simp <;> omega)) _).setCell (p := ⟨w.heap.size + 1 + 1, 1, none⟩) (by first | omega | (simp <;> omega)) _).setCell (p := ⟨w.heap.size + 1 + 1, 2, none⟩) (by first | omega | (simp <;> omega)) _)⟩⟩
  · skip
    have hn : putB wd hi wb xs ys e x y u v z = false := by rw [HP0.out, hs, hc, bd, nz]; rfl
    obtain ⟨n0, n1, n2⟩ := HM.out hn
    have N0 := Lib.hid n0; have N1 := Lib.hid n1; have N2 := Lib.hid n2; have NN := Lib.hid hn; clear n0 n1 n2 hn
    unfold nzB at nz
    obtain ⟨Rc, Rf⟩ := R.open
    go_wp2
    refine bodyPost_ret (v := .tuple #[.agg #[.slice none 0 0, .slice none 0 0, .slice none 0 0], .bool false]) (by simp [results, Try.results40, go_sem, Rc]) rfl ⟨none, none, none, 0, 0, 0, [], [], [], by rw [NN.out]; rfl, by rw [N0.out, N1.out, N2.out]; exact GotField.none (((HB.out.setCell (p := ⟨w.heap.size + 1 + 1, 0, none⟩) (by first | omega | (simp <;> omega)) _).setCell (p := ⟨w.heap.size + 1 + 1, 1, none⟩) (by first | omega | (simp <;> omega)) _).setCell (p := ⟨w.heap.size + 1 + 1, 2, none⟩) (by first | omega | (simp <;> omega)) _)⟩

end Go.Proofs.Ytpnfgchifclhlac

end
