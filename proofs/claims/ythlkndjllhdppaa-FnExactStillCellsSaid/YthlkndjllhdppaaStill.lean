/- Cells without speed: the program's answer and the model's. Conditions: none beyond those of each theorem. -/
import Derived.Test.YthlkndjllhdppaaSelK
import Derived.Test.YthlkndjllhdppaaBu14
namespace Go.Proofs.Ythlkndjllhdppaa
open Go Ieee Go.RowKit
set_option linter.unusedVariables false

def stillB (xs : List Nat) (i : Nat) : Bool := zB (xs.getD i 0)
def GaveSel (w : World) (b : Bool) (z : List Int) (r : Ending) (w' : World) : Prop :=
  ∃ (a : Option Addr) (c : Nat) (y : List Int), r = .returned (.tuple #[.slice a y.length c, .bool b]) ∧ GotInts w.heap.size w w' (if b then z else []) a y

set_option maxHeartbeats 4000000 in
theorem implStill (g i n m : Nat) (wd hi : Int) (wb : Bool) (a b : Option Addr) (ca cb : Nat) (xs : List Nat) (w : World) (X : Blk w g #[.int .i64 wd, .int .i64 hi, .bool wb, .slice a n ca, .slice b m cb] 29) (ha : RowV w a (fvals xs)) (hx : xs.length = n) (hi' : i < n) (n256 : n ≤ 256) : Calls Try.prog 109 #[.int .i64 (i : Int), .pointer (some ⟨g, 0, none⟩)] w fun r w' => r = .returned (.bool (stillB xs i)) ∧ Below w.heap.size w w' := by
  obtain ⟨Xc, Xf⟩ := X.open
  obtain ⟨b0, o0, rfl, k0⟩ := ha i _ (fvals_get (show i < xs.length by omega))
  have G0 := Lib.hid (getD_get (show i < xs.length by omega))
  generalize xs[i] = v0 at *
  have hin : (i : Int) < (n : Int) := by omega
  clear ha hx
  rcases z0 : zB v0 with _ | _
  · skip
    have HFB : Hid (stillB xs i = false) := Lib.hid (by unfold stillB; rw [G0.out, z0])
    unfold zB at z0
    go_enter Try.func109, Try.ntmps109
    go_wp2
    go_ret
    exact ⟨by rw [HFB.out]; rfl, Below.refl _ _⟩
  · skip
    have HFB : Hid (stillB xs i = true) := Lib.hid (by unfold stillB; rw [G0.out, z0])
    unfold zB at z0
    go_enter Try.func109, Try.ntmps109
    go_wp2
    go_ret
    exact ⟨by rw [HFB.out]; rfl, Below.refl _ _⟩

set_option maxHeartbeats 8000000 in
set_option maxRecDepth 100000 in
theorem implStillCellsL (wd hi : Int) (wb : Bool) (a b : Option Addr) (ca cb : Nat) (xs ys : List Nat) (w : World) (ha : RowV w a (fvals xs)) (hb : RowV w b (fvals ys)) (qa : ∀ z ∈ xs, z < 2 ^ 32) (qb : ∀ z ∈ ys, z < 2 ^ 32) (hx : xs.length ≤ maxLen) (hy : ys.length ≤ maxLen) :
    Calls Try.prog 52 #[.agg #[.int .i64 wd, .int .i64 hi, .bool wb, .slice a xs.length ca, .slice b ys.length cb]] w (GaveSel w (validB wd hi xs ys) (selL (stillB xs) (wd * hi).toNat)) := by
  rcases hv : validB wd hi xs ys with _ | _
  · skip
    have H_v := Lib.hid hv; clear hv
    have X := Blk.new w #[.int .i64 wd, .int .i64 hi, .bool wb, .slice a xs.length ca, .slice b ys.length cb] 29
    have HB : Hid (Below w.heap.size w (w.alloc (.cells #[.int .i64 wd, .int .i64 hi, .bool wb, .slice a xs.length ca, .slice b ys.length cb] 29))) := Lib.hid ((Below.refl w.heap.size w).alloc (by simp <;> omega) _)
    go_enter Try.func52, Try.ntmps52
    go_wp2_with fail
    generalize (w.alloc (.cells #[.int .i64 wd, .int .i64 hi, .bool wb, .slice a xs.length ca, .slice b ys.length cb] 29)) = u1 at *
    obtain ⟨Xc, Xf⟩ := X.open
    refine (implValidSheet _ _ _ _ _ _ _ _ _ _ (ha.later HB.out) (hb.later HB.out) hx hy).mono ?_
    rintro r u2 ⟨rfl, q⟩
    clear Xc Xf
    replace X := X.later q
    replace HB := Lib.hid (HB.out.trans (q.mono HB.out.size))
    clear q
    rw [H_v.out]
    go_wp2
    go_ret2
    exact ⟨none, 0, [], rfl, GotInts.none HB.out⟩
  obtain ⟨s1, s2, s3, s4, hm2, lx, ly⟩ := valid_parts hv
  obtain ⟨n, hn⟩ := Int.eq_ofNat_of_zero_le (show 0 ≤ wd * hi by omega)
  have E0 : xs.length = n := by omega
  have E1 : ys.length = n := by omega
  have n256 : n ≤ 256 := by omega
  have CV : ∀ u, Below w.heap.size w u → Calls Try.prog 62 #[.agg #[.int .i64 wd, .int .i64 hi, .bool wb, .slice a n ca, .slice b n cb]] u fun e w' => e = .returned (.bool true) ∧ Below u.heap.size u w' := fun u hu => by
    have := implValidSheet wd hi wb a b ca cb xs ys u (ha.later hu) (hb.later hu) hx hy
    rw [E0, E1, hv] at this; exact this
  have HCV := Lib.hid CV; clear CV
  rw [show (wd * hi).toNat = n by rw [hn]; rfl, E0, E1]
  have HN := Lib.hid hn; have L0 := Lib.hid E0; have L1 := Lib.hid E1; clear hn E0 E1 hv lx ly
  have X := Blk.new w #[.int .i64 wd, .int .i64 hi, .bool wb, .slice a n ca, .slice b n cb] 29
  have HB : Hid (Below w.heap.size w (w.alloc (.cells #[.int .i64 wd, .int .i64 hi, .bool wb, .slice a n ca, .slice b n cb] 29))) := Lib.hid ((Below.refl w.heap.size w).alloc (by simp <;> omega) _)
  go_enter Try.func52, Try.ntmps52
  go_wp2_with fail
  generalize (w.alloc (.cells #[.int .i64 wd, .int .i64 hi, .bool wb, .slice a n ca, .slice b n cb] 29)) = u1 at *
  obtain ⟨Xc, Xf⟩ := X.open
  refine (HCV.out _ HB.out).mono ?_
  rintro r u2 ⟨rfl, q⟩
  clear Xc Xf
  replace X := X.later q
  replace HB := Lib.hid (HB.out.trans (q.mono HB.out.size))
  clear q
  obtain ⟨Xc, Xf⟩ := X.open
  go_wp2_with fail
  refine (implShapeOf _ _ _ _ _ _ _ _ _ _).mono ?_
  rintro r u3 ⟨rfl, q⟩
  clear Xc Xf
  replace X := X.later q
  replace HB := Lib.hid (HB.out.trans (q.mono HB.out.size))
  clear q
  go_wp2_with fail
  have HBS := HB.out.size
  have HX := Lib.hid X; have HB5 := HB
  refine (implIndices wd hi wb n 109 #[.pointer (some ⟨w.heap.size, 0, none⟩)] (stillB xs) _ (by exact ⟨_, rfl, by kernel_rfl, by kernel_rfl⟩) (fun i hlt w' hw' => implStill w.heap.size i n n wd hi wb a b ca cb xs w' (HX.out.later hw') ((ha.later HB5.out).later hw') L0.out hlt n256) HN.out n256).mono ?_
  rintro r u4 ⟨a9, c9, rfl, hown, q⟩
  replace X := X.later q
  replace HB := Lib.hid (HB.out.trans (q.mono HB.out.size))
  clear q
  go_wp2
  go_ret2
  exact ⟨a9, c9, selL (stillB xs) n, rfl, ⟨hown.lower HBS, ⟨rfl, Nat.le_trans (selL_few _ _) n256⟩, HB.out⟩⟩

set_option maxHeartbeats 8000000 in
set_option maxRecDepth 100000 in
theorem specStillCellsL (wd hi : Int) (wb : Bool) (a b : Option Addr) (ca cb : Nat) (xs ys : List Nat) (w : World) (ha : RowV w a (fvals xs)) (hb : RowV w b (fvals ys)) (qa : ∀ z ∈ xs, z < 2 ^ 32) (qb : ∀ z ∈ ys, z < 2 ^ 32) (hx : xs.length ≤ maxLen) (hy : ys.length ≤ maxLen) :
    Calls Try.prog 51 #[.agg #[.int .i64 wd, .int .i64 hi, .bool wb, .slice a xs.length ca, .slice b ys.length cb]] w (GaveSel w (validB wd hi xs ys) (selL (stillB xs) (wd * hi).toNat)) := by
  rcases hv : validB wd hi xs ys with _ | _
  · skip
    have H_v := Lib.hid hv; clear hv
    have X := Blk.new w #[.int .i64 wd, .int .i64 hi, .bool wb, .slice a xs.length ca, .slice b ys.length cb] 29
    have HB : Hid (Below w.heap.size w (w.alloc (.cells #[.int .i64 wd, .int .i64 hi, .bool wb, .slice a xs.length ca, .slice b ys.length cb] 29))) := Lib.hid ((Below.refl w.heap.size w).alloc (by simp <;> omega) _)
    go_enter Try.func51, Try.ntmps51
    go_wp2_with fail
    generalize (w.alloc (.cells #[.int .i64 wd, .int .i64 hi, .bool wb, .slice a xs.length ca, .slice b ys.length cb] 29)) = u1 at *
    refine (specIs _ _ _ _ _ _ _ _ _ _ _ X (ha.later HB.out) (hb.later HB.out) hx hy).mono ?_
    rintro r u2 ⟨rfl, nq, hw⟩
    have q : Below u1.heap.size u1 u2 := by rw [hw]; exact below_drewN (Below.refl _ _) _
    clear hw
    replace X := X.later q
    replace HB := Lib.hid (HB.out.trans (q.mono HB.out.size))
    clear q
    rw [H_v.out]
    go_wp2
    go_ret2
    exact ⟨none, 0, [], rfl, GotInts.none HB.out⟩
  obtain ⟨s1, s2, s3, s4, hm2, lx, ly⟩ := valid_parts hv
  obtain ⟨n, hn⟩ := Int.eq_ofNat_of_zero_le (show 0 ≤ wd * hi by omega)
  have E0 : xs.length = n := by omega
  have E1 : ys.length = n := by omega
  have n256 : n ≤ 256 := by omega
  have CV : ∀ u, Below w.heap.size w u → Blk u w.heap.size #[.int .i64 wd, .int .i64 hi, .bool wb, .slice a n ca, .slice b n cb] 29 → Calls Try.prog 56 #[.pointer (some ⟨w.heap.size, 0, none⟩)] u fun e w' => e = .returned (.bool true) ∧ Below u.heap.size u w' := fun u hu X => by
    have := specIs w.heap.size wd hi wb a b ca cb xs ys u (by rw [E0, E1]; exact X) (ha.later hu) (hb.later hu) hx hy
    rw [hv] at this
    exact this.mono fun e w' ⟨h, nq, hw⟩ => ⟨h, by rw [hw]; exact below_drewN (Below.refl _ _) _⟩
  have HCV := Lib.hid CV; clear CV
  rw [show (wd * hi).toNat = n by rw [hn]; rfl, E0, E1]
  have HN := Lib.hid hn; have L0 := Lib.hid E0; have L1 := Lib.hid E1; clear hn E0 E1 hv lx ly
  have X := Blk.new w #[.int .i64 wd, .int .i64 hi, .bool wb, .slice a n ca, .slice b n cb] 29
  have HB : Hid (Below w.heap.size w (w.alloc (.cells #[.int .i64 wd, .int .i64 hi, .bool wb, .slice a n ca, .slice b n cb] 29))) := Lib.hid ((Below.refl w.heap.size w).alloc (by simp <;> omega) _)
  go_enter Try.func51, Try.ntmps51
  go_wp2_with fail
  generalize (w.alloc (.cells #[.int .i64 wd, .int .i64 hi, .bool wb, .slice a n ca, .slice b n cb] 29)) = u1 at *
  refine (HCV.out _ HB.out X).mono ?_
  rintro r u2 ⟨rfl, q⟩
  replace X := X.later q
  replace HB := Lib.hid (HB.out.trans (q.mono HB.out.size))
  clear q
  obtain ⟨ti, hi0, hz0, hz1, hz2⟩ := info_parts Try.infoI64
  have HI := Lib.hid hi0; have HZ0 := Lib.hid hz0; have HZ1 := Lib.hid hz1; have HZ2 := Lib.hid hz2; clear hi0 hz0 hz1 hz2
  have OS := Lib.hid (outsI_start (Below.refl u2.heap.size u2))
  have HBS := HB.out.size
  have Y1 := X.alloc (.cells #[] 2)
  have HY : Hid (∀ u, Below u2.heap.size u2 u → Blk u w.heap.size #[.int .i64 wd, .int .i64 hi, .bool wb, .slice a n ca, .slice b n cb] 29) := Lib.hid (fun u hu => X.later hu)
  obtain ⟨yc, yf⟩ := Y1.open
  clear X Y1
  go_wp2
  clear yc yf
  go_loopw [12, 4] (fun iv v wr => ∃ k : Nat, k ≤ n ∧ iv = .int .i64 k ∧ OutsI u2 wr v (selL (stillB xs) k)) (fun iv _ _ => n - (intOf iv).toNat)
  case atStart => exact ⟨0, Nat.zero_le _, rfl, OS.out⟩
  case round =>
    obtain ⟨k, hk, rfl, hout⟩ := hrel
    have HO := Lib.hid hout; clear hout OS
    have HBW := Lib.hid (HB.out.trans (HO.out.2.mono HB.out.size))
    by_cases hlt : k < n
    · skip
      have Y := HY.out _ HO.out.2
      obtain ⟨yc, yf⟩ := Y.open
      have r0 := ha.later HBW.out
      have l0 := L0.out
      obtain ⟨b0, o0, rfl, k0⟩ := r0 k _ (fvals_get (show k < xs.length by omega))
      have G0 := Lib.hid (getD_get (show k < xs.length by omega))
      generalize xs[k] = v0 at *
      have kn : (k : Int) < (n : Int) := by omega
      clear r0 l0
      rcases z0 : zB v0 with _ | _
      · skip
        have HFB : Hid (stillB xs k = false) := Lib.hid (by unfold stillB; rw [G0.out, z0])
        unfold zB at z0
        have HL := Lib.hid (selL_no HFB.out)
        go_wp2
        go_roundw
        case rel => exact ⟨k + 1, by omega, by go_num, by rw [HL.out]; exact HO.out⟩
        case measure => simp [intOf]; omega
      · skip
        have HFB : Hid (stillB xs k = true) := Lib.hid (by unfold stillB; rw [G0.out, z0])
        unfold zB at z0
        have HL := Lib.hid (selL_yes HFB.out)
        have hown := HO.out.1
        go_wp2_with (at_builtin; refine wpList_append_own _ rfl _ _ 26 rfl u2.heap.size 2 ti (.int .i64 0) 1 8 Try.underlying26 HI.out HZ0.out HZ1.out HZ2.out rfl (by decide) _ _ _ rfl (hown.alloc _) ⟨wr.heap.size, 0, none⟩ 1 1 [.int .i64 (k : Int)] rfl rfl (oneI_news _ _) (oneI_cells _) (by have := selL_few (stillB xs) k; unfold maxLen; omega) (by have := selL_few (stillB xs) k; omega) (by have := HO.out.2.size; simp; omega) ?_; intro v' w9 hown' hgrow _)
        have HO2 := Lib.hid (outsI_next HO.out hown' hgrow); clear hown hown' hgrow
        go_wp2
        go_roundw
        case rel => exact ⟨k + 1, by omega, by go_num, by rw [HL.out]; exact HO2.out⟩
        case measure => simp [intOf]; omega
    · skip
      obtain rfl : k = n := by omega
      obtain ⟨a9, c9, rfl, hown, hb9⟩ := outsI_end HO.out
      go_wp2
      go_ret2
      exact ⟨a9, c9, selL (stillB xs) k, rfl, ⟨hown.lower HBS, ⟨rfl, Nat.le_trans (selL_few _ _) n256⟩, HBW.out⟩⟩

end Go.Proofs.Ythlkndjllhdppaa
