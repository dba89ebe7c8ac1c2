/- Fields of a sheet, the whole tests: the program's and the model's. Conditions: none beyond those of each theorem. -/
import Derived.Test.YtabhjnpmmjmaiabFit
namespace Go.Proofs.Ytabhjnpmmjmaiab
open Go Ieee Go.RowKit
set_option linter.unusedVariables false

theorem implSizesOf (a0 a1 a2 : Option Addr) (n0 n1 n2 c0 c1 c2 : Nat) (w : World) : Calls Try.prog 68 #[.agg #[.slice a0 n0 c0, .slice a1 n1 c1, .slice a2 n2 c2]] w fun e w' => e = .returned (.agg #[.int .i64 n0, .int .i64 n1, .int .i64 n2]) ∧ Below w.heap.size w w' := by
  go_enter Try.func68, Try.ntmps68
  go_wp2
  exact bodyPost_ret (v := .agg #[.int .i64 n0, .int .i64 n1, .int .i64 n2]) (by simp [results, Try.results68, go_sem]) rfl ⟨rfl, ((Below.refl _ _).alloc (Nat.le_refl _) _).alloc (by simp) _⟩

set_option maxHeartbeats 4000000 in
theorem implIsField (wd hi : Int) (wb : Bool) (a b : Option Addr) (ca cb : Nat) (xs ys : List Nat) (a0 a1 a2 : Option Addr) (c0 c1 c2 : Nat) (e x y : List Nat) (w : World) (ha : RowV w a (fvals xs)) (hb : RowV w b (fvals ys)) (hx : xs.length ≤ maxLen) (hy : ys.length ≤ maxLen) (h0 : RowV w a0 (fvals e)) (h1 : RowV w a1 (fvals x)) (h2 : RowV w a2 (fvals y)) (m0 : e.length ≤ maxLen) (m1 : x.length ≤ maxLen) (m2 : y.length ≤ maxLen) :
    Calls Try.prog 29 #[.agg #[.int .i64 wd, .int .i64 hi, .bool wb, .slice a xs.length ca, .slice b ys.length cb], .agg #[.slice a0 e.length c0, .slice a1 x.length c1, .slice a2 y.length c2]] w fun r w' => r = .returned (.bool (fieldB wd hi wb xs ys e x y)) ∧ Below w.heap.size w w' := by
  have hv : fieldB wd hi wb xs ys e x y = (validB wd hi xs ys && fitsB wd hi wb e x y) := rfl
  have HV := Lib.hid hv; clear hv
  go_enter Try.func29, Try.ntmps29
  go_wp2_with fail
  have X := (Blk.new w #[.int .i64 wd, .int .i64 hi, .bool wb, .slice a xs.length ca, .slice b ys.length cb] 27).alloc (.cells #[.slice a0 e.length c0, .slice a1 x.length c1, .slice a2 y.length c2] 41)
  have Y := Blk.new1 w (.cells #[.int .i64 wd, .int .i64 hi, .bool wb, .slice a xs.length ca, .slice b ys.length cb] 27) #[.slice a0 e.length c0, .slice a1 x.length c1, .slice a2 y.length c2] 41
  have HB : Hid (Below w.heap.size w ((w.alloc (.cells #[.int .i64 wd, .int .i64 hi, .bool wb, .slice a xs.length ca, .slice b ys.length cb] 27)).alloc (.cells #[.slice a0 e.length c0, .slice a1 x.length c1, .slice a2 y.length c2] 41))) := Lib.hid (((Below.refl w.heap.size w).alloc (Nat.le_refl _) _).alloc (by simp) _)
  generalize ((w.alloc (.cells #[.int .i64 wd, .int .i64 hi, .bool wb, .slice a xs.length ca, .slice b ys.length cb] 27)).alloc (.cells #[.slice a0 e.length c0, .slice a1 x.length c1, .slice a2 y.length c2] 41)) = u0 at *
  refine (implValidSheet _ _ _ _ _ _ _ _ _ _ (ha.later HB.out) (hb.later HB.out) hx hy).mono ?_
  rintro r u1 ⟨rfl, q⟩
  replace X := X.later q
  replace Y := Y.later q
  replace HB := Lib.hid (HB.out.trans (q.mono HB.out.size))
  clear q
  obtain ⟨xc, xf⟩ := X.open; obtain ⟨yc, yf⟩ := Y.open
  rcases hs : validB wd hi xs ys with _ | _
  · go_wp2
    go_ret
    exact ⟨by rw [HV.out, hs]; rfl, HB.out⟩
  have hsd : sidesB wd hi = true := by
    unfold validB at hs
    cases h : sidesB wd hi
    · rw [h] at hs; cases hs
    · rfl
  have HS := Lib.hid hsd
  obtain ⟨s1, s2, s3, s4, hm1, hm2⟩ := sides_mul hsd
  clear hsd
  go_wp2_with fail
  refine (implShapeOf _ _ _ _ _ _ _ _ _ _).mono ?_
  rintro r u2 ⟨rfl, q⟩
  replace X := X.later q
  replace Y := Y.later q
  replace HB := Lib.hid (HB.out.trans (q.mono HB.out.size))
  clear q xc xf yc yf
  obtain ⟨xc, xf⟩ := X.open; obtain ⟨yc, yf⟩ := Y.open
  go_wp2_with fail
  have Z := Blk.new u2 #[.int .i64 wd, .int .i64 hi, .bool wb] 67
  have q : Below u2.heap.size u2 (u2.alloc (.cells #[.int .i64 wd, .int .i64 hi, .bool wb] 67)) := (Below.refl _ _).alloc (Nat.le_refl _) _
  replace X := X.later q
  replace Y := Y.later q
  replace HB := Lib.hid (HB.out.trans (q.mono HB.out.size))
  generalize u2.alloc (.cells #[.int .i64 wd, .int .i64 hi, .bool wb] 67) = u3 at *
  clear q xc xf yc yf
  refine (implCount _ _ _ _ (by omega) (by omega)).mono ?_
  rintro r u4 ⟨rfl, q⟩
  replace X := X.later q
  replace Y := Y.later q
  replace Z := Z.later q
  replace HB := Lib.hid (HB.out.trans (q.mono HB.out.size))
  clear q
  obtain ⟨yc, yf⟩ := Y.open; obtain ⟨zc, zf⟩ := Z.open
  go_wp2_with fail
  refine (implSizesOf _ _ _ _ _ _ _ _ _ _).mono ?_
  rintro r u5 ⟨rfl, q⟩
  replace X := X.later q
  replace Y := Y.later q
  replace Z := Z.later q
  replace HB := Lib.hid (HB.out.trans (q.mono HB.out.size))
  clear q yc yf zc zf
  obtain ⟨yc, yf⟩ := Y.open; obtain ⟨zc, zf⟩ := Z.open
  have hf : fitsB wd hi wb e x y = ((decide ((e.length : Int) = wd * hi) && (decide ((x.length : Int) = wd * hi) && decide ((y.length : Int) = wd * hi))) && (zin (bordB wb wd hi) wd e && (zin (fun _ y => belowB wb hi y) wd x && zin (fun x _ => besideB wb wd x) wd y))) := rfl
  have HF := Lib.hid hf; clear hf
  generalize wd * hi = p at *
  by_cases e0 : (e.length : Int) = p
  · have E0 := Lib.hid (decide_eq_true e0)
    have d0 : ((e.length : Int) == p) = true := by simpa using e0
    by_cases e1 : (x.length : Int) = p
    · have E1 := Lib.hid (decide_eq_true e1)
      have d1 : ((x.length : Int) == p) = true := by simpa using e1
      by_cases e2 : (y.length : Int) = p
      · have E2 := Lib.hid (decide_eq_true e2)
        have d2 : ((y.length : Int) == p) = true := by simpa using e2
        clear e0 e1 e2
        rcases z0 : zin (bordB wb wd hi) wd e with _ | _
        · skip
          go_wp2_with fail
          refine (implZero_border _ _ _ _ _ _ _ s1 s2 s3 s4 (h0.later HB.out) m0).mono ?_
          rw [z0]
          rintro r v0 ⟨rfl, q⟩
          have ZZ0 := Lib.hid z0; clear z0
          replace X := X.later q
          replace Y := Y.later q
          replace Z := Z.later q
          replace HB := Lib.hid (HB.out.trans (q.mono HB.out.size))
          clear q yc yf zc zf
          obtain ⟨yc, yf⟩ := Y.open; obtain ⟨zc, zf⟩ := Z.open
          go_wp2
          go_ret
          exact ⟨by rw [HV.out, hs, HF.out, E0.out, E1.out, E2.out, ZZ0.out]; rfl, HB.out⟩
        · skip
          go_wp2_with fail
          refine (implZero_border _ _ _ _ _ _ _ s1 s2 s3 s4 (h0.later HB.out) m0).mono ?_
          rw [z0]
          rintro r v0 ⟨rfl, q⟩
          have ZZ0 := Lib.hid z0; clear z0
          replace X := X.later q
          replace Y := Y.later q
          replace Z := Z.later q
          replace HB := Lib.hid (HB.out.trans (q.mono HB.out.size))
          clear q yc yf zc zf
          obtain ⟨yc, yf⟩ := Y.open; obtain ⟨zc, zf⟩ := Z.open
          rcases z1 : zin (fun _ y => belowB wb hi y) wd x with _ | _
          · skip
            go_wp2_with fail
            refine (implZero_below _ _ _ _ _ _ _ s1 s2 s3 s4 (h1.later HB.out) m1).mono ?_
            rw [z1]
            rintro r v1 ⟨rfl, q⟩
            have ZZ1 := Lib.hid z1; clear z1
            replace X := X.later q
            replace Y := Y.later q
            replace Z := Z.later q
            replace HB := Lib.hid (HB.out.trans (q.mono HB.out.size))
            clear q yc yf zc zf
            obtain ⟨yc, yf⟩ := Y.open; obtain ⟨zc, zf⟩ := Z.open
            go_wp2
            go_ret
            exact ⟨by rw [HV.out, hs, HF.out, E0.out, E1.out, E2.out, ZZ0.out, ZZ1.out]; rfl, HB.out⟩
          · skip
            go_wp2_with fail
            refine (implZero_below _ _ _ _ _ _ _ s1 s2 s3 s4 (h1.later HB.out) m1).mono ?_
            rw [z1]
            rintro r v1 ⟨rfl, q⟩
            have ZZ1 := Lib.hid z1; clear z1
            replace X := X.later q
            replace Y := Y.later q
            replace Z := Z.later q
            replace HB := Lib.hid (HB.out.trans (q.mono HB.out.size))
            clear q yc yf zc zf
            obtain ⟨yc, yf⟩ := Y.open; obtain ⟨zc, zf⟩ := Z.open
            rcases z2 : zin (fun x _ => besideB wb wd x) wd y with _ | _
            · skip
              go_wp2_with fail
              refine (implZero_beside _ _ _ _ _ _ _ s1 s2 s3 s4 (h2.later HB.out) m2).mono ?_
              rw [z2]
              rintro r v2 ⟨rfl, q⟩
              have ZZ2 := Lib.hid z2; clear z2
              replace X := X.later q
              replace Y := Y.later q
              replace Z := Z.later q
              replace HB := Lib.hid (HB.out.trans (q.mono HB.out.size))
              clear q yc yf zc zf
              obtain ⟨yc, yf⟩ := Y.open; obtain ⟨zc, zf⟩ := Z.open
              go_wp2
              go_ret
              exact ⟨by rw [HV.out, hs, HF.out, E0.out, E1.out, E2.out, ZZ0.out, ZZ1.out, ZZ2.out]; rfl, HB.out⟩
            · skip
              go_wp2_with fail
              refine (implZero_beside _ _ _ _ _ _ _ s1 s2 s3 s4 (h2.later HB.out) m2).mono ?_
              rw [z2]
              rintro r v2 ⟨rfl, q⟩
              have ZZ2 := Lib.hid z2; clear z2
              replace X := X.later q
              replace Y := Y.later q
              replace Z := Z.later q
              replace HB := Lib.hid (HB.out.trans (q.mono HB.out.size))
              clear q yc yf zc zf
              obtain ⟨yc, yf⟩ := Y.open; obtain ⟨zc, zf⟩ := Z.open
              go_wp2
              go_ret
              exact ⟨by rw [HV.out, hs, HF.out, E0.out, E1.out, E2.out, ZZ0.out, ZZ1.out, ZZ2.out]; rfl, HB.out⟩
      · have E2 := Lib.hid (decide_eq_false e2)
        have d2 : ((y.length : Int) == p) = false := by simpa using e2
        clear e0 e1 e2
        go_wp2
        go_ret
        exact ⟨by rw [HV.out, hs, HF.out, E0.out, E1.out, E2.out]; rfl, HB.out⟩
    · have E1 := Lib.hid (decide_eq_false e1)
      have d1 : ((x.length : Int) == p) = false := by simpa using e1
      clear e0 e1
      go_wp2
      go_ret
      exact ⟨by rw [HV.out, hs, HF.out, E0.out, E1.out]; rfl, HB.out⟩
  · have E0 := Lib.hid (decide_eq_false e0)
    have d0 : ((e.length : Int) == p) = false := by simpa using e0
    clear e0
    go_wp2
    go_ret
    exact ⟨by rw [HV.out, hs, HF.out, E0.out]; rfl, HB.out⟩

end Go.Proofs.Ytabhjnpmmjmaiab
