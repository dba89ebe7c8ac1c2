/- The field of zeros: the program's and the model's. Conditions: none beyond those of each theorem. -/
import Derived.Test.YtabhjnpmmjmaiabCells
import Derived.Test.YtabhjnpmmjmaiabGot
namespace Go.Proofs.Ytabhjnpmmjmaiab
open Go Ieee Go.RowKit
set_option linter.unusedVariables false

theorem make_f32s (n : Nat) (hn : n ≤ 1048576) (w : World) : (Instr.makeSlice 22 (.int .i64 (n : Int)) (.int .i64 (n : Int))).run Try.prog w = .ok (.slice (some ⟨w.heap.size, 0, none⟩) n n) (w.alloc (.cells (List.replicate n (Value.float .f32 0)).toArray 32)) := by
  obtain ⟨i0, hi, hz0, hz1, hz2⟩ := info_parts Try.infoF32
  have := run_make (P := Try.prog) w 22 32 i0 (.float .f32 0) Try.underlying22 hi hz0 .i64 .i64 n n (by omega) (Int.le_refl _) (by rw [hz2]; omega) (by omega)
  rw [this, hz1, Nat.mul_one, Int.toNat_natCast]
  have e : madeCells (Value.float FloatKind.f32 0).cells n = (List.replicate n (Value.float .f32 0)).toArray := by
    apply Array.toList_inj.1
    rw [show (Value.float FloatKind.f32 0).cells = #[.float .f32 0] from rfl, toList_madeCells_one]
  rw [e]

theorem fvals_zeros (n : Nat) : fvals (List.replicate n 0) = List.replicate n (Value.float .f32 0) := by unfold fvals; rw [List.map_replicate]

theorem own_zeros (w : World) (n : Nat) (t : TypeId) : OwnV (w.alloc (.cells (List.replicate n (Value.float .f32 0)).toArray t)) w.heap.size (some ⟨w.heap.size, 0, none⟩) (fvals (List.replicate n 0)) :=
  .inr ⟨_, _, t, rfl, Nat.le_refl _, Blk.new w _ t, fun i u h => by rw [fvals_zeros] at h; rw [List.getElem?_toArray]; exact h⟩

theorem is_zeros {n : Nat} (h : n ≤ 256) : Is (List.replicate n 0) (List.replicate n (some 0)) :=
  ⟨(by unfold cl; rw [List.map_replicate]; rfl), (fun y hy => by rw [List.eq_of_mem_replicate hy]; decide), (by simpa using h)⟩

theorem implZeros (wd hi : Int) (wb : Bool) (n : Nat) (w : World) (hn : wd * hi = n) (h256 : n ≤ 256) : Calls Try.prog 64 #[.agg #[.int .i64 wd, .int .i64 hi, .bool wb]] w fun e w' => ∃ g, e = .returned (.slice (some ⟨g, 0, none⟩) n n) ∧ OwnV w' w.heap.size (some ⟨g, 0, none⟩) (fvals (List.replicate n 0)) ∧ Below w.heap.size w w' ∧ g < w'.heap.size := by
  have h0 : 0 ≤ wd * hi := by omega
  have h1 : wd * hi ≤ 256 := by omega
  have HN := Lib.hid hn; clear hn
  have hmk := make_f32s n (by omega)
  have h2 := Int.natCast_nonneg n
  have X := Blk.new w #[.int .i64 wd, .int .i64 hi, .bool wb] 67
  have HB : Hid (Below w.heap.size w (w.alloc (.cells #[.int .i64 wd, .int .i64 hi, .bool wb] 67))) := Lib.hid ((Below.refl w.heap.size w).alloc (by simp <;> omega) _)
  go_enter Try.func64, Try.ntmps64
  go_wp2_with fail
  generalize (w.alloc (.cells #[.int .i64 wd, .int .i64 hi, .bool wb] 67)) = u1 at *
  refine (implCount _ _ _ _ h0 h1).mono ?_
  rintro r u2 ⟨rfl, q⟩
  replace X := X.later q
  replace HB := Lib.hid (HB.out.trans (q.mono HB.out.size))
  clear q
  rw [HN.out]
  clear h0 h1
  go_wp2
  go_ret
  exact ⟨u2.heap.size, rfl, (own_zeros u2 n _).lower HB.out.size, HB.out.alloc HB.out.size _, by simp⟩

theorem zeros3 (S : World) (n : Nat) (t : TypeId) (B k : Nat) (hk : S.heap.size = k) (hB : B ≤ k) :
    OwnV (((S.alloc (.cells (Array.replicate n (Value.float .f32 0)) t)).alloc (.cells (Array.replicate n (Value.float .f32 0)) t)).alloc (.cells (Array.replicate n (Value.float .f32 0)) t)).drew B (some ⟨k, 0, none⟩) (fvals (List.replicate n 0)) ∧
    OwnV (((S.alloc (.cells (Array.replicate n (Value.float .f32 0)) t)).alloc (.cells (Array.replicate n (Value.float .f32 0)) t)).alloc (.cells (Array.replicate n (Value.float .f32 0)) t)).drew B (some ⟨k + 1, 0, none⟩) (fvals (List.replicate n 0)) ∧
    OwnV (((S.alloc (.cells (Array.replicate n (Value.float .f32 0)) t)).alloc (.cells (Array.replicate n (Value.float .f32 0)) t)).alloc (.cells (Array.replicate n (Value.float .f32 0)) t)).drew B (some ⟨k + 1 + 1, 0, none⟩) (fvals (List.replicate n 0)) := by
  subst hk
  have g : ∀ (i : Nat) (u : Value), (fvals (List.replicate n 0))[i]? = some u → (Array.replicate n (Value.float .f32 0))[i]? = some u := fun i u h => by
    rw [fvals_zeros] at h
    rw [← Array.getElem?_toList, Array.toList_replicate]; exact h
  exact ⟨.inr ⟨_, _, t, rfl, hB, ((Blk.new S _ t).alloc _).alloc _, g⟩, .inr ⟨_, _, t, rfl, Nat.le_trans hB (Nat.le_add_right _ _), (Blk.new1 S _ _ t).alloc _, g⟩, .inr ⟨_, _, t, rfl, Nat.le_trans hB (Nat.le_trans (Nat.le_add_right _ _) (Nat.le_add_right _ _)), Blk.new2 S _ _ _ t, g⟩⟩

def zeroM (wd hi : Int) (xs ys : List Nat) : List (Option Nat) := if validB wd hi xs ys then List.replicate (wd * hi).toNat (some 0) else []

set_option maxHeartbeats 4000000 in
theorem implZeroField (wd hi : Int) (wb : Bool) (a b : Option Addr) (ca cb : Nat) (xs ys : List Nat) (w : World) (ha : RowV w a (fvals xs)) (hb : RowV w b (fvals ys)) (hx : xs.length ≤ maxLen) (hy : ys.length ≤ maxLen) : Calls Try.prog 34 #[.agg #[.int .i64 wd, .int .i64 hi, .bool wb, .slice a xs.length ca, .slice b ys.length cb]] w fun r w' => ∃ (a0 a1 a2 : Option Addr) (c0 c1 c2 : Nat) (y0 y1 y2 : List Nat), r = .returned (.tuple #[.agg #[.slice a0 y0.length c0, .slice a1 y1.length c1, .slice a2 y2.length c2], .bool (validB wd hi xs ys)]) ∧ GotField w.heap.size w w' (zeroM wd hi xs ys) (zeroM wd hi xs ys) (zeroM wd hi xs ys) a0 a1 a2 y0 y1 y2 := by
  have X := Blk.new w #[.int .i64 wd, .int .i64 hi, .bool wb, .slice a xs.length ca, .slice b ys.length cb] 27
  have R := Blk.new1 w (.cells #[.int .i64 wd, .int .i64 hi, .bool wb, .slice a xs.length ca, .slice b ys.length cb] 27) #[.slice none 0 0, .slice none 0 0, .slice none 0 0] 41
  replace X := X.alloc (.cells #[.slice none 0 0, .slice none 0 0, .slice none 0 0] 41)
  have HB : Hid (Below w.heap.size w ((w.alloc (.cells #[.int .i64 wd, .int .i64 hi, .bool wb, .slice a xs.length ca, .slice b ys.length cb] 27)).alloc (.cells #[.slice none 0 0, .slice none 0 0, .slice none 0 0] 41))) := Lib.hid (((Below.refl w.heap.size w).alloc (by simp <;> omega) _).alloc (by simp <;> omega) _)
  go_enter Try.func34, Try.ntmps34
  go_wp2_with fail
  generalize ((w.alloc (.cells #[.int .i64 wd, .int .i64 hi, .bool wb, .slice a xs.length ca, .slice b ys.length cb] 27)).alloc (.cells #[.slice none 0 0, .slice none 0 0, .slice none 0 0] 41)) = u1 at *
  refine (implValidSheet _ _ _ _ _ _ _ _ _ _ (ha.later HB.out) (hb.later HB.out) hx hy).mono ?_
  rintro r u2 ⟨rfl, q⟩
  replace X := X.later q
  replace R := R.later q
  replace HB := Lib.hid (HB.out.trans (q.mono HB.out.size))
  clear q
  rcases hs : validB wd hi xs ys with _ | _
  · skip
    have HM : Hid (zeroM wd hi xs ys = []) := Lib.hid (by unfold zeroM; rw [hs]; rfl)
    obtain ⟨Rc, Rf⟩ := R.open
    go_wp2
    refine bodyPost_ret (v := .tuple #[.agg #[.slice none 0 0, .slice none 0 0, .slice none 0 0], .bool false]) (by simp [results, Try.results34, go_sem, Rc]) rfl ⟨none, none, none, 0, 0, 0, [], [], [], by rw [hs]; rfl, by rw [HM.out]; exact GotField.none (((HB.out.setCell (p := ⟨w.heap.size + 1, 0, none⟩) (by simp) _).setCell (p := ⟨w.heap.size + 1, 1, none⟩) (by simp) _).setCell (p := ⟨w.heap.size + 1, 2, none⟩) (by simp) _)⟩
  obtain ⟨s1, s2, s3, s4, t1, t2⟩ := sides_mul (valid_sides hs)
  obtain ⟨n, hn⟩ := Int.eq_ofNat_of_zero_le (show 0 ≤ wd * hi by omega)
  have hn256 : n ≤ 256 := by omega
  have HM : Hid (zeroM wd hi xs ys = List.replicate n (some 0)) := Lib.hid (by unfold zeroM; rw [hs, hn]; rfl)
  have HN := Lib.hid hn; clear hn t1 t2
  obtain ⟨Xc, Xf⟩ := X.open
  go_wp2_with fail
  refine (implShapeOf _ _ _ _ _ _ _ _ _ _).mono ?_
  rintro r u3 ⟨rfl, q⟩
  clear Xc Xf
  replace X := X.later q
  replace R := R.later q
  replace HB := Lib.hid (HB.out.trans (q.mono HB.out.size))
  clear q
  have SZZ : w.heap.size + 1 < u3.heap.size + 0 := Nat.lt_of_lt_of_le R.lt (Nat.le_add_right _ _)
  have Z := Blk.new u3 #[.int .i64 wd, .int .i64 hi, .bool wb] 67
  have q := below_new u3 (.cells #[.int .i64 wd, .int .i64 hi, .bool wb] 67)
  replace X := X.later q
  replace R := R.later q
  replace HB := Lib.hid (HB.out.trans (q.mono HB.out.size))
  clear q
  obtain ⟨Zc, Zf⟩ := Z.open
  obtain ⟨Rc, Rf⟩ := R.open
  go_wp2_with fail
  generalize (u3.alloc (.cells #[.int .i64 wd, .int .i64 hi, .bool wb] 67)) = u4 at *
  clear Zc Zf
  clear Rc Rf
  have neZ : u3.heap.size ≠ w.heap.size + 1 := by omega
  have tk0 : True := trivial
  have tk1 : True := trivial
  have tk2 : True := trivial
  go_region_held3 (fun w' => (∀ i, w'.cell? ⟨u3.heap.size, i, none⟩ = (#[.int .i64 wd, .int .i64 hi, .bool wb] : Array Value)[i]?) ∧ u4.grownBy w' (some (w.heap.size + 1))) (first | exact keepR1_start Z | exact keepR1_later Z neZ (by assumption) (by assumption) | exact keepR1_set3 Z neZ (by assumption) _ _ _)
    (first
      | (go_at_call 64; have _t := tk0; clear _t tk0; (with_reducible refine (implZeros _ _ _ n _ HN.out hn256).mono ?_); rintro r u5 ⟨gg0, rfl, oo0, qa0, kk0⟩)
      | (go_at_call 64; have _t := tk1; clear _t tk1; (with_reducible refine (implZeros _ _ _ n _ HN.out hn256).mono ?_); rintro r u6 ⟨gg1, rfl, oo1, qa1, kk1⟩)
      | (go_at_call 64; have _t := tk2; clear _t tk2; (with_reducible refine (implZeros _ _ _ n _ HN.out hn256).mono ?_); rintro r u7 ⟨gg2, rfl, oo2, qa2, kk2⟩; obtain ⟨Rc, Rf⟩ := (R.later (below_next (below_next (below_next (below_drew u4) qa0) qa1) qa2)).open))
  go_wp2
  have b0 : u4.heap.size ≤ gg0 := oo0.bound gg0 rfl
  have b1 : u5.heap.size ≤ gg1 := oo1.bound gg1 rfl
  have b2 : u6.heap.size ≤ gg2 := oo2.bound gg2 rfl
  have z0 := R.lt; have z1 := qa1.size; have z2 := qa2.size; have z3 := HB.out.size; have z4 : u4.heap.size ≤ u5.heap.size := qa0.size
  refine bodyPost_ret (v := .tuple #[.agg #[.slice (some ⟨gg0, 0, none⟩) n n, .slice (some ⟨gg1, 0, none⟩) n n, .slice (some ⟨gg2, 0, none⟩) n n], .bool true]) (by simp [results, Try.results34, go_sem, Rc]) rfl ⟨some ⟨gg0, 0, none⟩, some ⟨gg1, 0, none⟩, some ⟨gg2, 0, none⟩, n, n, n, List.replicate n 0, List.replicate n 0, List.replicate n 0, by rw [hs, List.length_replicate], by rw [HM.out]; exact ⟨(((((oo0.later (below_next qa1 qa2)).lower (show w.heap.size ≤ _ by first | omega | exact z3)).set (p := ⟨w.heap.size + 1, 0, none⟩) (ne_block (h := w.heap.size + 1) (by omega)) _).set (p := ⟨w.heap.size + 1, 1, none⟩) (ne_block (h := w.heap.size + 1) (by omega)) _).set (p := ⟨w.heap.size + 1, 2, none⟩) (ne_block (h := w.heap.size + 1) (by omega)) _), (((((oo1.later qa2).lower (show w.heap.size ≤ _ by first | omega | exact z3)).set (p := ⟨w.heap.size + 1, 0, none⟩) (ne_block (h := w.heap.size + 1) (by omega)) _).set (p := ⟨w.heap.size + 1, 1, none⟩) (ne_block (h := w.heap.size + 1) (by omega)) _).set (p := ⟨w.heap.size + 1, 2, none⟩) (ne_block (h := w.heap.size + 1) (by omega)) _), (((((oo2).lower (show w.heap.size ≤ _ by first | omega | exact z3)).set (p := ⟨w.heap.size + 1, 0, none⟩) (ne_block (h := w.heap.size + 1) (by omega)) _).set (p := ⟨w.heap.size + 1, 1, none⟩) (ne_block (h := w.heap.size + 1) (by omega)) _).set (p := ⟨w.heap.size + 1, 2, none⟩) (ne_block (h := w.heap.size + 1) (by omega)) _), apart_ne (by omega), apart_ne (by omega), apart_ne (by omega), is_zeros hn256, is_zeros hn256, is_zeros hn256, ((((HB.out.trans ((below_next (below_next (below_next (below_drew u4) qa0) qa1) qa2).mono HB.out.size)).setCell (p := ⟨w.heap.size + 1, 0, none⟩) (by simp) _).setCell (p := ⟨w.heap.size + 1, 1, none⟩) (by simp) _).setCell (p := ⟨w.heap.size + 1, 2, none⟩) (by simp) _)⟩⟩

set_option maxHeartbeats 4000000 in
theorem specZero (n : Nat) (w : World) (h256 : n ≤ 256) : Calls Try.prog 74 #[.int .i64 n] w fun r w' => ∃ (a0 a1 a2 : Option Addr), r = .returned (.agg #[.slice a0 n n, .slice a1 n n, .slice a2 n n]) ∧ GotField w.heap.size w w' (List.replicate n (some 0)) (List.replicate n (some 0)) (List.replicate n (some 0)) a0 a1 a2 (List.replicate n 0) (List.replicate n 0) (List.replicate n 0) := by
  have hmk := make_f32s n (by omega)
  have h2 := Int.natCast_nonneg n
  have R := Blk.new w #[.slice none 0 0, .slice none 0 0, .slice none 0 0] 41
  have HB : Hid (Below w.heap.size w (w.alloc (.cells #[.slice none 0 0, .slice none 0 0, .slice none 0 0] 41))) := Lib.hid ((Below.refl w.heap.size w).alloc (by simp <;> omega) _)
  go_enter Try.func74, Try.ntmps74
  go_wp2_with fail
  generalize (w.alloc (.cells #[.slice none 0 0, .slice none 0 0, .slice none 0 0] 41)) = u1 at *
  obtain ⟨Rc, Rf⟩ := R.open
  have lt0 := R.lt; have lt1 : w.heap.size < u1.heap.size + 1 := by omega
  have lt2 : w.heap.size < u1.heap.size + 1 + 1 := by omega
  go_region_held3 (fun w' => u1.grownBy w' (some w.heap.size)) (first | exact grown_drew _ _ | exact grown_next (by assumption) (below_new _ _) | exact grown_next (grown_next (grown_next (grown_next (grown_set1 (grown_set1 (grown_set1 (grown_refl _ _) _ _) _ _) _ _) (below_new _ _)) (below_new _ _)) (below_new _ _)) (below_drew _)) (fail)
  all_goals go_wp2
  all_goals (first
      | (refine bodyPost_ret (v := .agg #[.slice (some ⟨u1.heap.size, 0, none⟩) n n, .slice (some ⟨u1.heap.size + 1, 0, none⟩) n n, .slice (some ⟨u1.heap.size + 1 + 1, 0, none⟩) n n]) ?_ rfl ⟨some ⟨u1.heap.size, 0, none⟩, some ⟨u1.heap.size + 1, 0, none⟩, some ⟨u1.heap.size + 1 + 1, 0, none⟩, rfl, ⟨(zeros3 _ n _ _ u1.heap.size (by simp) (by omega)).1, (zeros3 _ n _ _ u1.heap.size (by simp) (by omega)).2.1, (zeros3 _ n _ _ u1.heap.size (by simp) (by omega)).2.2, apart_ne (by omega), apart_ne (by omega), apart_ne (by omega), is_zeros h256, is_zeros h256, is_zeros h256, ((((((HB.out.setCell (p := ⟨w.heap.size, 0, none⟩) (Nat.le_refl _) _).setCell (p := ⟨w.heap.size, 1, none⟩) (Nat.le_refl _) _).setCell (p := ⟨w.heap.size, 2, none⟩) (Nat.le_refl _) _).alloc (by simp; omega) _).alloc (by simp; omega) _).alloc (by simp; omega) _).drew⟩⟩; (simp [results, Try.results74, go_sem, Rc, lt0, lt1, lt2]; done))
      | (refine bodyPost_ret (v := .agg #[.slice (some ⟨u1.heap.size, 0, none⟩) n n, .slice (some ⟨u1.heap.size + 1 + 1, 0, none⟩) n n, .slice (some ⟨u1.heap.size + 1, 0, none⟩) n n]) ?_ rfl ⟨some ⟨u1.heap.size, 0, none⟩, some ⟨u1.heap.size + 1 + 1, 0, none⟩, some ⟨u1.heap.size + 1, 0, none⟩, rfl, ⟨(zeros3 _ n _ _ u1.heap.size (by simp) (by omega)).1, (zeros3 _ n _ _ u1.heap.size (by simp) (by omega)).2.2, (zeros3 _ n _ _ u1.heap.size (by simp) (by omega)).2.1, apart_ne (by omega), apart_ne (by omega), apart_ne (by omega), is_zeros h256, is_zeros h256, is_zeros h256, ((((((HB.out.setCell (p := ⟨w.heap.size, 0, none⟩) (Nat.le_refl _) _).setCell (p := ⟨w.heap.size, 1, none⟩) (Nat.le_refl _) _).setCell (p := ⟨w.heap.size, 2, none⟩) (Nat.le_refl _) _).alloc (by simp; omega) _).alloc (by simp; omega) _).alloc (by simp; omega) _).drew⟩⟩; (simp [results, Try.results74, go_sem, Rc, lt0, lt1, lt2]; done))
      | (refine bodyPost_ret (v := .agg #[.slice (some ⟨u1.heap.size + 1, 0, none⟩) n n, .slice (some ⟨u1.heap.size, 0, none⟩) n n, .slice (some ⟨u1.heap.size + 1 + 1, 0, none⟩) n n]) ?_ rfl ⟨some ⟨u1.heap.size + 1, 0, none⟩, some ⟨u1.heap.size, 0, none⟩, some ⟨u1.heap.size + 1 + 1, 0, none⟩, rfl, ⟨(zeros3 _ n _ _ u1.heap.size (by simp) (by omega)).2.1, (zeros3 _ n _ _ u1.heap.size (by simp) (by omega)).1, (zeros3 _ n _ _ u1.heap.size (by simp) (by omega)).2.2, apart_ne (by omega), apart_ne (by omega), apart_ne (by omega), is_zeros h256, is_zeros h256, is_zeros h256, ((((((HB.out.setCell (p := ⟨w.heap.size, 0, none⟩) (Nat.le_refl _) _).setCell (p := ⟨w.heap.size, 1, none⟩) (Nat.le_refl _) _).setCell (p := ⟨w.heap.size, 2, none⟩) (Nat.le_refl _) _).alloc (by simp; omega) _).alloc (by simp; omega) _).alloc (by simp; omega) _).drew⟩⟩; (simp [results, Try.results74, go_sem, Rc, lt0, lt1, lt2]; done))
      | (refine bodyPost_ret (v := .agg #[.slice (some ⟨u1.heap.size + 1, 0, none⟩) n n, .slice (some ⟨u1.heap.size + 1 + 1, 0, none⟩) n n, .slice (some ⟨u1.heap.size, 0, none⟩) n n]) ?_ rfl ⟨some ⟨u1.heap.size + 1, 0, none⟩, some ⟨u1.heap.size + 1 + 1, 0, none⟩, some ⟨u1.heap.size, 0, none⟩, rfl, ⟨(zeros3 _ n _ _ u1.heap.size (by simp) (by omega)).2.1, (zeros3 _ n _ _ u1.heap.size (by simp) (by omega)).2.2, (zeros3 _ n _ _ u1.heap.size (by simp) (by omega)).1, apart_ne (by omega), apart_ne (by omega), apart_ne (by omega), is_zeros h256, is_zeros h256, is_zeros h256, ((((((HB.out.setCell (p := ⟨w.heap.size, 0, none⟩) (Nat.le_refl _) _).setCell (p := ⟨w.heap.size, 1, none⟩) (Nat.le_refl _) _).setCell (p := ⟨w.heap.size, 2, none⟩) (Nat.le_refl _) _).alloc (by simp; omega) _).alloc (by simp; omega) _).alloc (by simp; omega) _).drew⟩⟩; (simp [results, Try.results74, go_sem, Rc, lt0, lt1, lt2]; done))
      | (refine bodyPost_ret (v := .agg #[.slice (some ⟨u1.heap.size + 1 + 1, 0, none⟩) n n, .slice (some ⟨u1.heap.size, 0, none⟩) n n, .slice (some ⟨u1.heap.size + 1, 0, none⟩) n n]) ?_ rfl ⟨some ⟨u1.heap.size + 1 + 1, 0, none⟩, some ⟨u1.heap.size, 0, none⟩, some ⟨u1.heap.size + 1, 0, none⟩, rfl, ⟨(zeros3 _ n _ _ u1.heap.size (by simp) (by omega)).2.2, (zeros3 _ n _ _ u1.heap.size (by simp) (by omega)).1, (zeros3 _ n _ _ u1.heap.size (by simp) (by omega)).2.1, apart_ne (by omega), apart_ne (by omega), apart_ne (by omega), is_zeros h256, is_zeros h256, is_zeros h256, ((((((HB.out.setCell (p := ⟨w.heap.size, 0, none⟩) (Nat.le_refl _) _).setCell (p := ⟨w.heap.size, 1, none⟩) (Nat.le_refl _) _).setCell (p := ⟨w.heap.size, 2, none⟩) (Nat.le_refl _) _).alloc (by simp; omega) _).alloc (by simp; omega) _).alloc (by simp; omega) _).drew⟩⟩; (simp [results, Try.results74, go_sem, Rc, lt0, lt1, lt2]; done))
      | (refine bodyPost_ret (v := .agg #[.slice (some ⟨u1.heap.size + 1 + 1, 0, none⟩) n n, .slice (some ⟨u1.heap.size + 1, 0, none⟩) n n, .slice (some ⟨u1.heap.size, 0, none⟩) n n]) ?_ rfl ⟨some ⟨u1.heap.size + 1 + 1, 0, none⟩, some ⟨u1.heap.size + 1, 0, none⟩, some ⟨u1.heap.size, 0, none⟩, rfl, ⟨(zeros3 _ n _ _ u1.heap.size (by simp) (by omega)).2.2, (zeros3 _ n _ _ u1.heap.size (by simp) (by omega)).2.1, (zeros3 _ n _ _ u1.heap.size (by simp) (by omega)).1, apart_ne (by omega), apart_ne (by omega), apart_ne (by omega), is_zeros h256, is_zeros h256, is_zeros h256, ((((((HB.out.setCell (p := ⟨w.heap.size, 0, none⟩) (Nat.le_refl _) _).setCell (p := ⟨w.heap.size, 1, none⟩) (Nat.le_refl _) _).setCell (p := ⟨w.heap.size, 2, none⟩) (Nat.le_refl _) _).alloc (by simp; omega) _).alloc (by simp; omega) _).alloc (by simp; omega) _).drew⟩⟩; (simp [results, Try.results74, go_sem, Rc, lt0, lt1, lt2]; done)))

end Go.Proofs.Ytabhjnpmmjmaiab
