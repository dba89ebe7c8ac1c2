/- Cells in which nothing is: the functions. Conditions: none beyond those of each theorem. -/
import Derived.Test.YtpnfgchifclhlabFarA
namespace Go.Proofs.Ytpnfgchifclhlab
open Go Ieee Go.RowKit
set_option linter.unusedVariables false

set_option maxHeartbeats 8000000 in
set_option maxRecDepth 100000 in
theorem implFarCellsL (wd hi : Int) (wb : Bool) (a b : Option Addr) (ca cb : Nat) (xs ys : List Nat) (a0 a1 a2 : Option Addr) (c0 c1 c2 : Nat) (e x y : List Nat) (w : World) (ha : RowV w a (fvals xs)) (hb : RowV w b (fvals ys)) (qa : ∀ z ∈ xs, z < 2 ^ 32) (qb : ∀ z ∈ ys, z < 2 ^ 32) (hx : xs.length ≤ maxLen) (hy : ys.length ≤ maxLen) (h0 : RowV w a0 (fvals e)) (h1 : RowV w a1 (fvals x)) (h2 : RowV w a2 (fvals y)) (q0 : ∀ z ∈ e, z < 2 ^ 32) (q1 : ∀ z ∈ x, z < 2 ^ 32) (q2 : ∀ z ∈ y, z < 2 ^ 32) (m0 : e.length ≤ maxLen) (m1 : x.length ≤ maxLen) (m2 : y.length ≤ maxLen) :
    Calls Try.prog 52 #[.agg #[.int .i64 wd, .int .i64 hi, .bool wb, .slice a xs.length ca, .slice b ys.length cb], .agg #[.slice a0 e.length c0, .slice a1 x.length c1, .slice a2 y.length c2]] w (GaveI w (fieldB wd hi wb xs ys e x y) (farL e x y (wd * hi).toNat)) := by
  rcases hfv : fieldB wd hi wb xs ys e x y with _ | _
  · skip
    have H_fb := Lib.hid hfv; clear hfv
    have X := Blk.new w #[.int .i64 wd, .int .i64 hi, .bool wb, .slice a xs.length ca, .slice b ys.length cb] 32
    have Y := Blk.new1 w (.cells #[.int .i64 wd, .int .i64 hi, .bool wb, .slice a xs.length ca, .slice b ys.length cb] 32) #[.slice a0 e.length c0, .slice a1 x.length c1, .slice a2 y.length c2] 34
    replace X := X.alloc (.cells #[.slice a0 e.length c0, .slice a1 x.length c1, .slice a2 y.length c2] 34)
    have HB : Hid (Below w.heap.size w ((w.alloc (.cells #[.int .i64 wd, .int .i64 hi, .bool wb, .slice a xs.length ca, .slice b ys.length cb] 32)).alloc (.cells #[.slice a0 e.length c0, .slice a1 x.length c1, .slice a2 y.length c2] 34))) := Lib.hid (((Below.refl w.heap.size w).alloc (by simp <;> omega) _).alloc (by simp <;> omega) _)
    go_enter Try.func52, Try.ntmps52
    go_wp2_with fail
    generalize ((w.alloc (.cells #[.int .i64 wd, .int .i64 hi, .bool wb, .slice a xs.length ca, .slice b ys.length cb] 32)).alloc (.cells #[.slice a0 e.length c0, .slice a1 x.length c1, .slice a2 y.length c2] 34)) = u1 at *
    refine (implIsField _ _ _ _ _ _ _ _ _ _ _ _ _ _ _ _ _ _ _ (ha.later HB.out) (hb.later HB.out) hx hy (h0.later HB.out) (h1.later HB.out) (h2.later HB.out) m0 m1 m2).mono ?_
    rintro r u2 ⟨rfl, q⟩
    replace X := X.later q
    replace Y := Y.later q
    replace HB := Lib.hid (HB.out.trans (q.mono HB.out.size))
    clear q
    rw [H_fb.out]
    go_wp2
    go_ret2
    exact ⟨none, 0, [], rfl, GotInts.none HB.out⟩
  obtain ⟨p1, _, l0, l1, l2⟩ := field_parts hfv
  obtain ⟨s1, s2, s3, s4, t1, t2⟩ := sides_mul (valid_sides p1)
  obtain ⟨n, hn⟩ := Int.eq_ofNat_of_zero_le (show 0 ≤ wd * hi by omega)
  have E0 : e.length = n := by omega
  have E1 : x.length = n := by omega
  have E2 : y.length = n := by omega
  have n256 : n ≤ 256 := by omega
  have CV : ∀ u, Below w.heap.size w u → Calls Try.prog 60 #[.agg #[.int .i64 wd, .int .i64 hi, .bool wb, .slice a xs.length ca, .slice b ys.length cb], .agg #[.slice a0 n c0, .slice a1 n c1, .slice a2 n c2]] u fun e w' => e = .returned (.bool true) ∧ Below u.heap.size u w' := fun u hu => by
    have := implIsField wd hi wb a b ca cb xs ys a0 a1 a2 c0 c1 c2 e x y u (ha.later hu) (hb.later hu) hx hy (h0.later hu) (h1.later hu) (h2.later hu) m0 m1 m2
    rw [E0, E1, E2, hfv] at this; exact this
  have HCV := Lib.hid CV; clear CV
  rw [show (wd * hi).toNat = n by rw [hn]; rfl]
  rw [E0, E1, E2]
  have HN := Lib.hid hn; have L0 := Lib.hid E0; have L1 := Lib.hid E1; have L2 := Lib.hid E2; clear hn E0 E1 E2 hfv p1 l0 l1 l2 t1 t2
  have X := Blk.new w #[.int .i64 wd, .int .i64 hi, .bool wb, .slice a xs.length ca, .slice b ys.length cb] 32
  have Y := Blk.new1 w (.cells #[.int .i64 wd, .int .i64 hi, .bool wb, .slice a xs.length ca, .slice b ys.length cb] 32) #[.slice a0 n c0, .slice a1 n c1, .slice a2 n c2] 34
  replace X := X.alloc (.cells #[.slice a0 n c0, .slice a1 n c1, .slice a2 n c2] 34)
  have HB : Hid (Below w.heap.size w ((w.alloc (.cells #[.int .i64 wd, .int .i64 hi, .bool wb, .slice a xs.length ca, .slice b ys.length cb] 32)).alloc (.cells #[.slice a0 n c0, .slice a1 n c1, .slice a2 n c2] 34))) := Lib.hid (((Below.refl w.heap.size w).alloc (by simp <;> omega) _).alloc (by simp <;> omega) _)
  go_enter Try.func52, Try.ntmps52
  go_wp2_with fail
  generalize ((w.alloc (.cells #[.int .i64 wd, .int .i64 hi, .bool wb, .slice a xs.length ca, .slice b ys.length cb] 32)).alloc (.cells #[.slice a0 n c0, .slice a1 n c1, .slice a2 n c2] 34)) = u1 at *
  refine (HCV.out _ HB.out).mono ?_
  rintro r u2 ⟨rfl, q⟩
  replace X := X.later q
  replace Y := Y.later q
  replace HB := Lib.hid (HB.out.trans (q.mono HB.out.size))
  clear q
  obtain ⟨Xc, Xf⟩ := X.open
  go_wp2_with fail
  refine (implShapeOf _ _ _ _ _ _ _ _ _ _).mono ?_
  rintro r u3 ⟨rfl, q⟩
  clear Xc Xf
  replace X := X.later q
  replace Y := Y.later q
  replace HB := Lib.hid (HB.out.trans (q.mono HB.out.size))
  clear q
  go_wp2_with fail
  refine (implIndicesFar wd hi wb (w.heap.size + 1) n a0 a1 a2 c0 c1 c2 e x y _ Y (h0.later HB.out) (h1.later HB.out) (h2.later HB.out) L0.out L1.out L2.out HN.out n256).mono ?_
  have HBS := HB.out.size
  rintro r u4 ⟨a9, c9, rfl, hown, q⟩
  replace X := X.later q
  replace Y := Y.later q
  replace HB := Lib.hid (HB.out.trans (q.mono HB.out.size))
  clear q
  go_wp2
  go_ret2
  exact ⟨a9, c9, farL e x y n, rfl, ⟨hown.lower HBS, ⟨rfl, Nat.le_trans (farL_few _ _ _ _) n256⟩, HB.out⟩⟩

set_option maxHeartbeats 8000000 in
set_option maxRecDepth 100000 in
theorem specFarCellsL (wd hi : Int) (wb : Bool) (a b : Option Addr) (ca cb : Nat) (xs ys : List Nat) (a0 a1 a2 : Option Addr) (c0 c1 c2 : Nat) (e x y : List Nat) (w : World) (ha : RowV w a (fvals xs)) (hb : RowV w b (fvals ys)) (qa : ∀ z ∈ xs, z < 2 ^ 32) (qb : ∀ z ∈ ys, z < 2 ^ 32) (hx : xs.length ≤ maxLen) (hy : ys.length ≤ maxLen) (h0 : RowV w a0 (fvals e)) (h1 : RowV w a1 (fvals x)) (h2 : RowV w a2 (fvals y)) (q0 : ∀ z ∈ e, z < 2 ^ 32) (q1 : ∀ z ∈ x, z < 2 ^ 32) (q2 : ∀ z ∈ y, z < 2 ^ 32) (m0 : e.length ≤ maxLen) (m1 : x.length ≤ maxLen) (m2 : y.length ≤ maxLen) :
    Calls Try.prog 51 #[.agg #[.int .i64 wd, .int .i64 hi, .bool wb, .slice a xs.length ca, .slice b ys.length cb], .agg #[.slice a0 e.length c0, .slice a1 x.length c1, .slice a2 y.length c2]] w (GaveI w (fieldB wd hi wb xs ys e x y) (farL e x y (wd * hi).toNat)) := by
  rcases hfv : fieldB wd hi wb xs ys e x y with _ | _
  · skip
    have H_fb := Lib.hid hfv; clear hfv
    have X := Blk.new w #[.int .i64 wd, .int .i64 hi, .bool wb, .slice a xs.length ca, .slice b ys.length cb] 32
    have Y := Blk.new1 w (.cells #[.int .i64 wd, .int .i64 hi, .bool wb, .slice a xs.length ca, .slice b ys.length cb] 32) #[.slice a0 e.length c0, .slice a1 x.length c1, .slice a2 y.length c2] 34
    replace X := X.alloc (.cells #[.slice a0 e.length c0, .slice a1 x.length c1, .slice a2 y.length c2] 34)
    have HB : Hid (Below w.heap.size w ((w.alloc (.cells #[.int .i64 wd, .int .i64 hi, .bool wb, .slice a xs.length ca, .slice b ys.length cb] 32)).alloc (.cells #[.slice a0 e.length c0, .slice a1 x.length c1, .slice a2 y.length c2] 34))) := Lib.hid (((Below.refl w.heap.size w).alloc (by simp <;> omega) _).alloc (by simp <;> omega) _)
    go_enter Try.func51, Try.ntmps51
    go_wp2_with fail
    generalize ((w.alloc (.cells #[.int .i64 wd, .int .i64 hi, .bool wb, .slice a xs.length ca, .slice b ys.length cb] 32)).alloc (.cells #[.slice a0 e.length c0, .slice a1 x.length c1, .slice a2 y.length c2] 34)) = u1 at *
    refine (specBoth _ _ _ _ _ _ _ _ _ _ _ _ _ _ _ _ _ _ _ _ _ X Y (ha.later HB.out) (hb.later HB.out) hx hy (h0.later HB.out) (h1.later HB.out) (h2.later HB.out) m0 m1 m2).mono ?_
    rintro r u2 ⟨rfl, nq, hw⟩
    have q : Below u1.heap.size u1 u2 := by rw [hw]; exact below_drewN (Below.refl _ _) _
    clear hw
    replace X := X.later q
    replace Y := Y.later q
    replace HB := Lib.hid (HB.out.trans (q.mono HB.out.size))
    clear q
    rw [H_fb.out]
    go_wp2
    go_ret2
    exact ⟨none, 0, [], rfl, GotInts.none HB.out⟩
  obtain ⟨p1, _, l0, l1, l2⟩ := field_parts hfv
  obtain ⟨s1, s2, s3, s4, t1, t2⟩ := sides_mul (valid_sides p1)
  obtain ⟨n, hn⟩ := Int.eq_ofNat_of_zero_le (show 0 ≤ wd * hi by omega)
  have E0 : e.length = n := by omega
  have E1 : x.length = n := by omega
  have E2 : y.length = n := by omega
  have n256 : n ≤ 256 := by omega
  have CV : ∀ u, Below w.heap.size w u → Blk u w.heap.size #[.int .i64 wd, .int .i64 hi, .bool wb, .slice a xs.length ca, .slice b ys.length cb] 32 → Blk u (w.heap.size + 1) #[.slice a0 n c0, .slice a1 n c1, .slice a2 n c2] 34 → Calls Try.prog 62 #[.pointer (some ⟨w.heap.size, 0, none⟩), .pointer (some ⟨w.heap.size + 1, 0, none⟩)] u fun e w' => e = .returned (.bool true) ∧ Below u.heap.size u w' := fun u hu X Y => by
    have := specBoth w.heap.size (w.heap.size + 1) wd hi wb a b ca cb xs ys a0 a1 a2 c0 c1 c2 e x y u X (by rw [E0, E1, E2]; exact Y) (ha.later hu) (hb.later hu) hx hy (h0.later hu) (h1.later hu) (h2.later hu) m0 m1 m2
    rw [hfv] at this
    exact this.mono fun e w' ⟨h, nq, hw⟩ => ⟨h, by rw [hw]; exact below_drewN (Below.refl _ _) _⟩
  have HCV := Lib.hid CV; clear CV
  rw [show (wd * hi).toNat = n by rw [hn]; rfl]
  rw [E0, E1, E2]
  have HN := Lib.hid hn; have L0 := Lib.hid E0; have L1 := Lib.hid E1; have L2 := Lib.hid E2; clear hn E0 E1 E2 hfv p1 l0 l1 l2 t1 t2
  have X := Blk.new w #[.int .i64 wd, .int .i64 hi, .bool wb, .slice a xs.length ca, .slice b ys.length cb] 32
  have Y := Blk.new1 w (.cells #[.int .i64 wd, .int .i64 hi, .bool wb, .slice a xs.length ca, .slice b ys.length cb] 32) #[.slice a0 n c0, .slice a1 n c1, .slice a2 n c2] 34
  replace X := X.alloc (.cells #[.slice a0 n c0, .slice a1 n c1, .slice a2 n c2] 34)
  have HB : Hid (Below w.heap.size w ((w.alloc (.cells #[.int .i64 wd, .int .i64 hi, .bool wb, .slice a xs.length ca, .slice b ys.length cb] 32)).alloc (.cells #[.slice a0 n c0, .slice a1 n c1, .slice a2 n c2] 34))) := Lib.hid (((Below.refl w.heap.size w).alloc (by simp <;> omega) _).alloc (by simp <;> omega) _)
  go_enter Try.func51, Try.ntmps51
  go_wp2_with fail
  generalize ((w.alloc (.cells #[.int .i64 wd, .int .i64 hi, .bool wb, .slice a xs.length ca, .slice b ys.length cb] 32)).alloc (.cells #[.slice a0 n c0, .slice a1 n c1, .slice a2 n c2] 34)) = u1 at *
  refine (HCV.out _ HB.out X Y).mono ?_
  rintro r u2 ⟨rfl, q⟩
  replace X := X.later q
  replace Y := Y.later q
  replace HB := Lib.hid (HB.out.trans (q.mono HB.out.size))
  clear q
  obtain ⟨ti, hi0, hz0, hz1, hz2⟩ := info_parts Try.infoI64
  have HI := Lib.hid hi0; have HZ0 := Lib.hid hz0; have HZ1 := Lib.hid hz1; have HZ2 := Lib.hid hz2; clear hi0 hz0 hz1 hz2
  have OS := Lib.hid (outsI_start (Below.refl u2.heap.size u2))
  have HBS := HB.out.size
  have Y1 := Y.alloc (.cells #[] 2)
  have HY : Hid (∀ u, Below u2.heap.size u2 u → Blk u (w.heap.size + 1) #[.slice a0 n c0, .slice a1 n c1, .slice a2 n c2] 34) := Lib.hid (fun u hu => Y.later hu)
  obtain ⟨yc, yf⟩ := Y1.open
  clear X Y Y1
  go_wp2
  clear yc yf
  go_loopw [14, 6] (fun iv v wr => ∃ k : Nat, k ≤ n ∧ iv = .int .i64 k ∧ OutsI u2 wr v (farL e x y k)) (fun iv _ _ => n - (intOf iv).toNat)
  case atStart => exact ⟨0, Nat.zero_le _, rfl, OS.out⟩
  case round =>
    obtain ⟨k, hk, rfl, hout⟩ := hrel
    have HO := Lib.hid hout; clear hout OS
    have HBW := Lib.hid (HB.out.trans (HO.out.2.mono HB.out.size))
    by_cases hlt : k < n
    · skip
      have Y := HY.out _ HO.out.2
      obtain ⟨yc, yf⟩ := Y.open
      have r0 := h0.later HBW.out; have r1 := h1.later HBW.out; have r2 := h2.later HBW.out
      have l0 := L0.out; have l1 := L1.out; have l2 := L2.out
      obtain ⟨b0, o0, rfl, k0⟩ := r0 k _ (fvals_get (show k < e.length by omega))
      have G0 := Lib.hid (getD_get (show k < e.length by omega))
      generalize e[k] = v0 at *
      obtain ⟨b1, o1, rfl, k1⟩ := r1 k _ (fvals_get (show k < x.length by omega))
      have G1 := Lib.hid (getD_get (show k < x.length by omega))
      generalize x[k] = v1 at *
      obtain ⟨b2, o2, rfl, k2⟩ := r2 k _ (fvals_get (show k < y.length by omega))
      have G2 := Lib.hid (getD_get (show k < y.length by omega))
      generalize y[k] = v2 at *
      have kn : (k : Int) < (n : Int) := by omega
      clear r0 r1 r2 l0 l1 l2
      rcases z0 : zB v0 with _ | _
      · skip
        have HFB : Hid (farB e x y k = false) := Lib.hid (by unfold farB; rw [G0.out, z0]; rfl)
        unfold zB at z0
        have HL := Lib.hid (farL_no HFB.out)
        go_wp2
        go_roundw
        case rel => exact ⟨k + 1, by omega, by go_num, by rw [HL.out]; exact HO.out⟩
        case measure => simp [intOf]; omega
      · skip
        rcases z1 : zB v1 with _ | _
        · skip
          have HFB : Hid (farB e x y k = false) := Lib.hid (by unfold farB; rw [G0.out, z0, G1.out, z1]; rfl)
          unfold zB at z0
          unfold zB at z1
          have HL := Lib.hid (farL_no HFB.out)
          go_wp2
          go_roundw
          case rel => exact ⟨k + 1, by omega, by go_num, by rw [HL.out]; exact HO.out⟩
          case measure => simp [intOf]; omega
        · skip
          rcases z2 : zB v2 with _ | _
          · skip
            have HFB : Hid (farB e x y k = false) := Lib.hid (by unfold farB; rw [G0.out, z0, G1.out, z1, G2.out, z2]; rfl)
            unfold zB at z0
            unfold zB at z1
            unfold zB at z2
            have HL := Lib.hid (farL_no HFB.out)
            go_wp2
            go_roundw
            case rel => exact ⟨k + 1, by omega, by go_num, by rw [HL.out]; exact HO.out⟩
            case measure => simp [intOf]; omega
          · skip
            have HFB : Hid (farB e x y k = true) := Lib.hid (by unfold farB; rw [G0.out, z0, G1.out, z1, G2.out, z2]; rfl)
            unfold zB at z0
            unfold zB at z1
            unfold zB at z2
            have HL := Lib.hid (farL_yes HFB.out)
            have hown := HO.out.1
            go_wp2_with (at_builtin; refine wpList_append_own _ rfl _ _ 56 rfl u2.heap.size 2 ti (.int .i64 0) 1 8 Try.underlying56 HI.out HZ0.out HZ1.out HZ2.out rfl (by decide) _ _ _ rfl (hown.alloc _) ⟨wr.heap.size, 0, none⟩ 1 1 [.int .i64 (k : Int)] rfl rfl (oneI_news _ _) (oneI_cells _) (by have := farL_few e x y k; unfold maxLen; omega) (by have := farL_few e x y k; omega) (by have := HO.out.2.size; simp; omega) ?_; intro v' w9 hown' hgrow _)
            have HO2 := Lib.hid (outsI_next HO.out hown' hgrow); clear hown hown' hgrow
            go_wp2
            go_roundw
            case rel => exact ⟨k + 1, by omega, by go_num, by rw [HL.out]; exact HO2.out⟩
            case measure => simp [intOf]; omega
    · skip
      obtain rfl : k = n := by omega
      obtain ⟨a9, c9, rfl, hown, hb9⟩ := outsI_end HO.out
      go_wp2
      go_ret2
      exact ⟨a9, c9, farL e x y k, rfl, ⟨hown.lower HBS, ⟨rfl, Nat.le_trans (farL_few _ _ _ _) n256⟩, HBW.out⟩⟩

end Go.Proofs.Ytpnfgchifclhlab
