/- Sheets and fields that are the same: the program's tests and the model's. Conditions: none beyond those of each theorem. -/
import Derived.Test.YtpnfgchifclhlaaSame
import Derived.Test.YtpnfgchifclhlaaBu4
import Derived.Laws.StructEq
namespace Go.Proofs.Ytpnfgchifclhlaa
open Go Ieee Go.RowKit
set_option linter.unusedVariables false

theorem specSameV (a b : Option Addr) (ca cb : Nat) (xs ys : List Nat) (w : World) (ha : RowV w a (fvals xs)) (hb : RowV w b (fvals ys)) (qa : ∀ z ∈ xs, z < 2 ^ 32) (qb : ∀ z ∈ ys, z < 2 ^ 32) (hn : xs.length ≤ maxLen) (hm : ys.length ≤ maxLen) (v : Bool) (hv : sameB xs ys = v) : Calls Try.prog 51 #[.slice a xs.length ca, .slice b ys.length cb] w fun e w' => e = .returned (.bool v) ∧ Below w.heap.size w w' :=
  (specSameAll _ _ _ _ _ _ _ ha hb qa qb hn hm).mono fun e w' ⟨h, n, hw⟩ => ⟨by rw [h, hv], by rw [hw]; exact below_drewN (Below.refl _ _) _⟩

theorem implSameV (a b : Option Addr) (ca cb : Nat) (xs ys : List Nat) (w : World) (ha : RowV w a (fvals xs)) (hb : RowV w b (fvals ys)) (qa : ∀ z ∈ xs, z < 2 ^ 32) (qb : ∀ z ∈ ys, z < 2 ^ 32) (hn : xs.length ≤ maxLen) (hm : ys.length ≤ maxLen) (v : Bool) (hv : sameB xs ys = v) : Calls Try.prog 54 #[.slice a xs.length ca, .slice b ys.length cb] w fun e w' => e = .returned (.bool v) ∧ Below w.heap.size w w' :=
  (implSameAll _ _ _ _ _ _ _ ha hb qa qb hn hm).mono fun e w' ⟨h, n, hw⟩ => ⟨by rw [h, hv], by rw [hw]; exact below_drewN (Below.refl _ _) _⟩

theorem specSameD (a b : Option Addr) (ca cb : Nat) (xs ys : List Nat) (w : World) (ha : RowV w a (fvals xs)) (hb : RowV w b (fvals ys)) (qa : ∀ z ∈ xs, z < 2 ^ 32) (qb : ∀ z ∈ ys, z < 2 ^ 32) (hn : xs.length ≤ maxLen) (hm : ys.length ≤ maxLen) (v : Bool) (hv : sameB xs ys = v) : Calls Try.prog 51 #[.slice a xs.length ca, .slice b ys.length cb] w fun e w' => e = .returned (.bool v) ∧ ∃ m, w' = w.drewN m :=
  (specSameAll _ _ _ _ _ _ _ ha hb qa qb hn hm).mono fun e w' ⟨h, n, hw⟩ => ⟨by rw [h, hv], n, hw⟩

theorem quietX {P : Program} {f : FuncId} {args : Array Value} {w : World} {n : Nat} {v : Value} (h : ∀ n, Calls P f args (w.drewN n) fun e w' => e = .returned v ∧ ∃ m, w' = (w.drewN n).drewN m) : Calls P f args (w.drewN n) fun e w'' => e = .returned v ∧ ∃ m, w'' = w.drewN m :=
  (h n).mono fun _ _ ⟨he, m, hm⟩ => ⟨he, n + m, by rw [hm]; simp⟩

def sameSheetB (wd hi : Int) (wb : Bool) (xs ys : List Nat) (wd2 hi2 : Int) (wb2 : Bool) (xs2 ys2 : List Nat) : Bool := (wd == wd2) && ((hi == hi2) && ((wb == wb2) && (sameB xs xs2 && sameB ys ys2)))

set_option maxHeartbeats 4000000 in
theorem specSameSheetL (wd hi : Int) (wb : Bool) (a b : Option Addr) (ca cb : Nat) (xs ys : List Nat) (wd2 hi2 : Int) (wb2 : Bool) (a2 b2 : Option Addr) (ca2 cb2 : Nat) (xs2 ys2 : List Nat) (w : World) (ha : RowV w a (fvals xs)) (hb : RowV w b (fvals ys)) (qa : ∀ z ∈ xs, z < 2 ^ 32) (qb : ∀ z ∈ ys, z < 2 ^ 32) (hx : xs.length ≤ maxLen) (hy : ys.length ≤ maxLen) (ha2 : RowV w a2 (fvals xs2)) (hb2 : RowV w b2 (fvals ys2)) (qa2 : ∀ z ∈ xs2, z < 2 ^ 32) (qb2 : ∀ z ∈ ys2, z < 2 ^ 32) (hx2 : xs2.length ≤ maxLen) (hy2 : ys2.length ≤ maxLen) : Calls Try.prog 16 #[.agg #[.int .i64 wd, .int .i64 hi, .bool wb, .slice a xs.length ca, .slice b ys.length cb], .agg #[.int .i64 wd2, .int .i64 hi2, .bool wb2, .slice a2 xs2.length ca2, .slice b2 ys2.length cb2]] w fun e w' => e = .returned (.bool (sameSheetB wd hi wb xs ys wd2 hi2 wb2 xs2 ys2)) ∧ Below w.heap.size w w' := by
  have hv : sameSheetB wd hi wb xs ys wd2 hi2 wb2 xs2 ys2 = ((wd == wd2) && ((hi == hi2) && ((wb == wb2) && (sameB xs xs2 && sameB ys ys2)))) := rfl
  have HV := Lib.hid hv; clear hv
  rcases k0 : (wd == wd2) with _ | _
  · skip
    have HR : Hid (sameSheetB wd hi wb xs ys wd2 hi2 wb2 xs2 ys2 = false) := Lib.hid (by rw [HV.out, k0]; rfl)
    have X := Blk.new w #[.int .i64 wd, .int .i64 hi, .bool wb, .slice a xs.length ca, .slice b ys.length cb] 27
    have Y := Blk.new1 w (.cells #[.int .i64 wd, .int .i64 hi, .bool wb, .slice a xs.length ca, .slice b ys.length cb] 27) #[.int .i64 wd2, .int .i64 hi2, .bool wb2, .slice a2 xs2.length ca2, .slice b2 ys2.length cb2] 27
    replace X := X.alloc (.cells #[.int .i64 wd2, .int .i64 hi2, .bool wb2, .slice a2 xs2.length ca2, .slice b2 ys2.length cb2] 27)
    have HB : Hid (Below w.heap.size w ((w.alloc (.cells #[.int .i64 wd, .int .i64 hi, .bool wb, .slice a xs.length ca, .slice b ys.length cb] 27)).alloc (.cells #[.int .i64 wd2, .int .i64 hi2, .bool wb2, .slice a2 xs2.length ca2, .slice b2 ys2.length cb2] 27))) := Lib.hid (((Below.refl w.heap.size w).alloc (by simp <;> omega) _).alloc (by simp <;> omega) _)
    go_enter Try.func16, Try.ntmps16
    go_upto_region 1 with (fail)
    generalize ((w.alloc (.cells #[.int .i64 wd, .int .i64 hi, .bool wb, .slice a xs.length ca, .slice b ys.length cb] 27)).alloc (.cells #[.int .i64 wd2, .int .i64 hi2, .bool wb2, .slice a2 xs2.length ca2, .slice b2 ys2.length cb2] 27)) = u1 at *
    obtain ⟨Xc, Xf⟩ := X.open
    obtain ⟨Yc, Yf⟩ := Y.open
    go_wp2
    go_ret
    exact ⟨by rw [HR.out]; rfl, HB.out⟩
  · skip
    rcases k1 : (hi == hi2) with _ | _
    · skip
      have HR : Hid (sameSheetB wd hi wb xs ys wd2 hi2 wb2 xs2 ys2 = false) := Lib.hid (by rw [HV.out, k0, k1]; rfl)
      have X := Blk.new w #[.int .i64 wd, .int .i64 hi, .bool wb, .slice a xs.length ca, .slice b ys.length cb] 27
      have Y := Blk.new1 w (.cells #[.int .i64 wd, .int .i64 hi, .bool wb, .slice a xs.length ca, .slice b ys.length cb] 27) #[.int .i64 wd2, .int .i64 hi2, .bool wb2, .slice a2 xs2.length ca2, .slice b2 ys2.length cb2] 27
      replace X := X.alloc (.cells #[.int .i64 wd2, .int .i64 hi2, .bool wb2, .slice a2 xs2.length ca2, .slice b2 ys2.length cb2] 27)
      have HB : Hid (Below w.heap.size w ((w.alloc (.cells #[.int .i64 wd, .int .i64 hi, .bool wb, .slice a xs.length ca, .slice b ys.length cb] 27)).alloc (.cells #[.int .i64 wd2, .int .i64 hi2, .bool wb2, .slice a2 xs2.length ca2, .slice b2 ys2.length cb2] 27))) := Lib.hid (((Below.refl w.heap.size w).alloc (by simp <;> omega) _).alloc (by simp <;> omega) _)
      go_enter Try.func16, Try.ntmps16
      go_upto_region 1 with (fail)
      generalize ((w.alloc (.cells #[.int .i64 wd, .int .i64 hi, .bool wb, .slice a xs.length ca, .slice b ys.length cb] 27)).alloc (.cells #[.int .i64 wd2, .int .i64 hi2, .bool wb2, .slice a2 xs2.length ca2, .slice b2 ys2.length cb2] 27)) = u1 at *
      obtain ⟨Xc, Xf⟩ := X.open
      obtain ⟨Yc, Yf⟩ := Y.open
      go_wp2
      go_ret
      exact ⟨by rw [HR.out]; rfl, HB.out⟩
    · skip
      rcases k2 : (wb == wb2) with _ | _
      · skip
        have HR : Hid (sameSheetB wd hi wb xs ys wd2 hi2 wb2 xs2 ys2 = false) := Lib.hid (by rw [HV.out, k0, k1, k2]; rfl)
        have X := Blk.new w #[.int .i64 wd, .int .i64 hi, .bool wb, .slice a xs.length ca, .slice b ys.length cb] 27
        have Y := Blk.new1 w (.cells #[.int .i64 wd, .int .i64 hi, .bool wb, .slice a xs.length ca, .slice b ys.length cb] 27) #[.int .i64 wd2, .int .i64 hi2, .bool wb2, .slice a2 xs2.length ca2, .slice b2 ys2.length cb2] 27
        replace X := X.alloc (.cells #[.int .i64 wd2, .int .i64 hi2, .bool wb2, .slice a2 xs2.length ca2, .slice b2 ys2.length cb2] 27)
        have HB : Hid (Below w.heap.size w ((w.alloc (.cells #[.int .i64 wd, .int .i64 hi, .bool wb, .slice a xs.length ca, .slice b ys.length cb] 27)).alloc (.cells #[.int .i64 wd2, .int .i64 hi2, .bool wb2, .slice a2 xs2.length ca2, .slice b2 ys2.length cb2] 27))) := Lib.hid (((Below.refl w.heap.size w).alloc (by simp <;> omega) _).alloc (by simp <;> omega) _)
        go_enter Try.func16, Try.ntmps16
        go_upto_region 1 with (fail)
        generalize ((w.alloc (.cells #[.int .i64 wd, .int .i64 hi, .bool wb, .slice a xs.length ca, .slice b ys.length cb] 27)).alloc (.cells #[.int .i64 wd2, .int .i64 hi2, .bool wb2, .slice a2 xs2.length ca2, .slice b2 ys2.length cb2] 27)) = u1 at *
        obtain ⟨Xc, Xf⟩ := X.open
        obtain ⟨Yc, Yf⟩ := Y.open
        go_wp2
        go_ret
        exact ⟨by rw [HR.out]; rfl, HB.out⟩
      · skip
        rcases s0 : (sameB xs xs2) with _ | _
        · skip
          have Hs0 := Lib.hid s0; clear s0
          have HR : Hid (sameSheetB wd hi wb xs ys wd2 hi2 wb2 xs2 ys2 = false) := Lib.hid (by rw [HV.out, k0, k1, k2, Hs0.out]; rfl)
          have X := Blk.new w #[.int .i64 wd, .int .i64 hi, .bool wb, .slice a xs.length ca, .slice b ys.length cb] 27
          have Y := Blk.new1 w (.cells #[.int .i64 wd, .int .i64 hi, .bool wb, .slice a xs.length ca, .slice b ys.length cb] 27) #[.int .i64 wd2, .int .i64 hi2, .bool wb2, .slice a2 xs2.length ca2, .slice b2 ys2.length cb2] 27
          replace X := X.alloc (.cells #[.int .i64 wd2, .int .i64 hi2, .bool wb2, .slice a2 xs2.length ca2, .slice b2 ys2.length cb2] 27)
          have HB : Hid (Below w.heap.size w ((w.alloc (.cells #[.int .i64 wd, .int .i64 hi, .bool wb, .slice a xs.length ca, .slice b ys.length cb] 27)).alloc (.cells #[.int .i64 wd2, .int .i64 hi2, .bool wb2, .slice a2 xs2.length ca2, .slice b2 ys2.length cb2] 27))) := Lib.hid (((Below.refl w.heap.size w).alloc (by simp <;> omega) _).alloc (by simp <;> omega) _)
          go_enter Try.func16, Try.ntmps16
          go_upto_region 1 with (fail)
          generalize ((w.alloc (.cells #[.int .i64 wd, .int .i64 hi, .bool wb, .slice a xs.length ca, .slice b ys.length cb] 27)).alloc (.cells #[.int .i64 wd2, .int .i64 hi2, .bool wb2, .slice a2 xs2.length ca2, .slice b2 ys2.length cb2] 27)) = u1 at *
          obtain ⟨Xc, Xf⟩ := X.open
          obtain ⟨Yc, Yf⟩ := Y.open
          go_wp2_with fail
          refine (specSameV _ _ _ _ _ _ _ (ha.later HB.out) (ha2.later HB.out) qa qa2 hx hx2 false Hs0.out).mono ?_
          rintro r u2 ⟨rfl, q⟩
          clear Xc Xf
          clear Yc Yf
          replace X := X.later q
          replace Y := Y.later q
          replace HB := Lib.hid (HB.out.trans (q.mono HB.out.size))
          clear q
          obtain ⟨Xc, Xf⟩ := X.open
          obtain ⟨Yc, Yf⟩ := Y.open
          go_wp2
          go_ret
          exact ⟨by rw [HR.out]; rfl, HB.out⟩
        · skip
          rcases s1 : (sameB ys ys2) with _ | _
          · skip
            have Hs0 := Lib.hid s0; clear s0
            have Hs1 := Lib.hid s1; clear s1
            have HR : Hid (sameSheetB wd hi wb xs ys wd2 hi2 wb2 xs2 ys2 = false) := Lib.hid (by rw [HV.out, k0, k1, k2, Hs0.out, Hs1.out]; rfl)
            have X := Blk.new w #[.int .i64 wd, .int .i64 hi, .bool wb, .slice a xs.length ca, .slice b ys.length cb] 27
            have Y := Blk.new1 w (.cells #[.int .i64 wd, .int .i64 hi, .bool wb, .slice a xs.length ca, .slice b ys.length cb] 27) #[.int .i64 wd2, .int .i64 hi2, .bool wb2, .slice a2 xs2.length ca2, .slice b2 ys2.length cb2] 27
            replace X := X.alloc (.cells #[.int .i64 wd2, .int .i64 hi2, .bool wb2, .slice a2 xs2.length ca2, .slice b2 ys2.length cb2] 27)
            have HB : Hid (Below w.heap.size w ((w.alloc (.cells #[.int .i64 wd, .int .i64 hi, .bool wb, .slice a xs.length ca, .slice b ys.length cb] 27)).alloc (.cells #[.int .i64 wd2, .int .i64 hi2, .bool wb2, .slice a2 xs2.length ca2, .slice b2 ys2.length cb2] 27))) := Lib.hid (((Below.refl w.heap.size w).alloc (by simp <;> omega) _).alloc (by simp <;> omega) _)
            go_enter Try.func16, Try.ntmps16
            go_upto_region 1 with (fail)
            generalize ((w.alloc (.cells #[.int .i64 wd, .int .i64 hi, .bool wb, .slice a xs.length ca, .slice b ys.length cb] 27)).alloc (.cells #[.int .i64 wd2, .int .i64 hi2, .bool wb2, .slice a2 xs2.length ca2, .slice b2 ys2.length cb2] 27)) = u1 at *
            obtain ⟨Xc, Xf⟩ := X.open
            obtain ⟨Yc, Yf⟩ := Y.open
            go_wp2_with fail
            refine (specSameV _ _ _ _ _ _ _ (ha.later HB.out) (ha2.later HB.out) qa qa2 hx hx2 true Hs0.out).mono ?_
            rintro r u2 ⟨rfl, q⟩
            clear Xc Xf
            clear Yc Yf
            replace X := X.later q
            replace Y := Y.later q
            replace HB := Lib.hid (HB.out.trans (q.mono HB.out.size))
            clear q
            obtain ⟨Xc, Xf⟩ := X.open
            obtain ⟨Yc, Yf⟩ := Y.open
            go_wp2_with fail
            refine (specSameV _ _ _ _ _ _ _ (hb.later HB.out) (hb2.later HB.out) qb qb2 hy hy2 false Hs1.out).mono ?_
            rintro r u3 ⟨rfl, q⟩
            clear Xc Xf
            clear Yc Yf
            replace X := X.later q
            replace Y := Y.later q
            replace HB := Lib.hid (HB.out.trans (q.mono HB.out.size))
            clear q
            obtain ⟨Xc, Xf⟩ := X.open
            obtain ⟨Yc, Yf⟩ := Y.open
            go_wp2
            go_ret
            exact ⟨by rw [HR.out]; rfl, HB.out⟩
          · skip
            have Hs0 := Lib.hid s0; clear s0
            have Hs1 := Lib.hid s1; clear s1
            have HR : Hid (sameSheetB wd hi wb xs ys wd2 hi2 wb2 xs2 ys2 = true) := Lib.hid (by rw [HV.out, k0, k1, k2, Hs0.out, Hs1.out]; rfl)
            have X := Blk.new w #[.int .i64 wd, .int .i64 hi, .bool wb, .slice a xs.length ca, .slice b ys.length cb] 27
            have Y := Blk.new1 w (.cells #[.int .i64 wd, .int .i64 hi, .bool wb, .slice a xs.length ca, .slice b ys.length cb] 27) #[.int .i64 wd2, .int .i64 hi2, .bool wb2, .slice a2 xs2.length ca2, .slice b2 ys2.length cb2] 27
            replace X := X.alloc (.cells #[.int .i64 wd2, .int .i64 hi2, .bool wb2, .slice a2 xs2.length ca2, .slice b2 ys2.length cb2] 27)
            have HB : Hid (Below w.heap.size w ((w.alloc (.cells #[.int .i64 wd, .int .i64 hi, .bool wb, .slice a xs.length ca, .slice b ys.length cb] 27)).alloc (.cells #[.int .i64 wd2, .int .i64 hi2, .bool wb2, .slice a2 xs2.length ca2, .slice b2 ys2.length cb2] 27))) := Lib.hid (((Below.refl w.heap.size w).alloc (by simp <;> omega) _).alloc (by simp <;> omega) _)
            go_enter Try.func16, Try.ntmps16
            go_upto_region 1 with (fail)
            generalize ((w.alloc (.cells #[.int .i64 wd, .int .i64 hi, .bool wb, .slice a xs.length ca, .slice b ys.length cb] 27)).alloc (.cells #[.int .i64 wd2, .int .i64 hi2, .bool wb2, .slice a2 xs2.length ca2, .slice b2 ys2.length cb2] 27)) = u1 at *
            obtain ⟨Xc, Xf⟩ := X.open
            obtain ⟨Yc, Yf⟩ := Y.open
            go_wp2_with fail
            refine (specSameV _ _ _ _ _ _ _ (ha.later HB.out) (ha2.later HB.out) qa qa2 hx hx2 true Hs0.out).mono ?_
            rintro r u2 ⟨rfl, q⟩
            clear Xc Xf
            clear Yc Yf
            replace X := X.later q
            replace Y := Y.later q
            replace HB := Lib.hid (HB.out.trans (q.mono HB.out.size))
            clear q
            obtain ⟨Xc, Xf⟩ := X.open
            obtain ⟨Yc, Yf⟩ := Y.open
            go_wp2_with fail
            refine (specSameV _ _ _ _ _ _ _ (hb.later HB.out) (hb2.later HB.out) qb qb2 hy hy2 true Hs1.out).mono ?_
            rintro r u3 ⟨rfl, q⟩
            clear Xc Xf
            clear Yc Yf
            replace X := X.later q
            replace Y := Y.later q
            replace HB := Lib.hid (HB.out.trans (q.mono HB.out.size))
            clear q
            obtain ⟨Xc, Xf⟩ := X.open
            obtain ⟨Yc, Yf⟩ := Y.open
            go_wp2
            go_ret
            exact ⟨by rw [HR.out]; rfl, HB.out⟩

def sameFieldB (e x y e2 x2 y2 : List Nat) : Bool := sameB e e2 && (sameB x x2 && sameB y y2)

theorem same_eqlen {xs ys : List Nat} (h : sameB xs ys = true) : xs.length = ys.length := by
  by_cases k : xs.length = ys.length
  · exact k
  · rw [same_len k] at h; cases h

set_option maxHeartbeats 4000000 in
set_option maxRecDepth 100000 in
theorem specSame2 (gA gB : Nat) (a0 a1 a2 : Option Addr) (c0 c1 c2 : Nat) (e x y : List Nat) (b0 b1 b2 : Option Addr) (d0 d1 d2 : Nat) (e2 x2 y2 : List Nat) (w : World) (hg1 : Blk w gA #[.slice a0 e.length c0, .slice a1 x.length c1, .slice a2 y.length c2] 39) (hg2 : Blk w gB #[.slice b0 e2.length d0, .slice b1 x2.length d1, .slice b2 y2.length d2] 39) (h0 : RowV w a0 (fvals e)) (h1 : RowV w a1 (fvals x)) (h2 : RowV w a2 (fvals y)) (q0 : ∀ z ∈ e, z < 2 ^ 32) (q1 : ∀ z ∈ x, z < 2 ^ 32) (q2 : ∀ z ∈ y, z < 2 ^ 32) (m0 : e.length ≤ maxLen) (m1 : x.length ≤ maxLen) (m2 : y.length ≤ maxLen) (g0 : RowV w b0 (fvals e2)) (g1 : RowV w b1 (fvals x2)) (g2 : RowV w b2 (fvals y2)) (r0 : ∀ z ∈ e2, z < 2 ^ 32) (r1 : ∀ z ∈ x2, z < 2 ^ 32) (r2 : ∀ z ∈ y2, z < 2 ^ 32) (n0 : e2.length ≤ maxLen) (n1 : x2.length ≤ maxLen) (n2 : y2.length ≤ maxLen) : Calls Try.prog 64 #[.pointer (some ⟨gA, 0, none⟩), .pointer (some ⟨gB, 0, none⟩)] w fun e' w' => e' = .returned (.bool (sameFieldB e x y e2 x2 y2)) ∧ Below w.heap.size w w' := by
  have hv : sameFieldB e x y e2 x2 y2 = (sameB e e2 && (sameB x x2 && sameB y y2)) := rfl
  have HV := Lib.hid hv; clear hv
  rcases s0 : sameB e e2 with _ | _
  · skip
    have H0 := Lib.hid s0; clear s0
    have HR : Hid (sameFieldB e x y e2 x2 y2 = false) := Lib.hid (by rw [HV.out, H0.out]; rfl)
    have X := hg1; have Y := hg2; have HB : Hid (Below w.heap.size w w) := Lib.hid (Below.refl _ _)
    obtain ⟨Xc, Xf⟩ := X.open
    obtain ⟨Yc, Yf⟩ := Y.open
    go_enter Try.func64, Try.ntmps64
    go_upto_region 1 with (fail)
    go_quiet ((first | (go_at_call 51; with_reducible exact quietX (fun n => specSameD _ _ _ _ _ _ _ (RowV.drawn h0 n) (RowV.drawn g0 n) q0 r0 m0 n0 false H0.out))))
    go_wp2
    go_ret
    exact ⟨by rw [HR.out]; rfl, below_drewN HB.out _⟩
  · skip
    rcases s1 : sameB x x2 with _ | _
    · skip
      have H0 := Lib.hid s0; clear s0
      have H1 := Lib.hid s1; clear s1
      have HR : Hid (sameFieldB e x y e2 x2 y2 = false) := Lib.hid (by rw [HV.out, H0.out, H1.out]; rfl)
      have X := hg1; have Y := hg2; have HB : Hid (Below w.heap.size w w) := Lib.hid (Below.refl _ _)
      obtain ⟨Xc, Xf⟩ := X.open
      obtain ⟨Yc, Yf⟩ := Y.open
      go_enter Try.func64, Try.ntmps64
      go_upto_region 1 with (fail)
      go_quiet ((first | (go_at_call 51; with_reducible exact quietX (fun n => specSameD _ _ _ _ _ _ _ (RowV.drawn h0 n) (RowV.drawn g0 n) q0 r0 m0 n0 true H0.out)) | (go_at_call 51; with_reducible exact quietX (fun n => specSameD _ _ _ _ _ _ _ (RowV.drawn h1 n) (RowV.drawn g1 n) q1 r1 m1 n1 false H1.out))))
      go_wp2
      go_ret
      exact ⟨by rw [HR.out]; rfl, below_drewN HB.out _⟩
    · skip
      rcases s2 : sameB y y2 with _ | _
      · skip
        have H0 := Lib.hid s0; clear s0
        have H1 := Lib.hid s1; clear s1
        have H2 := Lib.hid s2; clear s2
        have HR : Hid (sameFieldB e x y e2 x2 y2 = false) := Lib.hid (by rw [HV.out, H0.out, H1.out, H2.out]; rfl)
        have X := hg1; have Y := hg2; have HB : Hid (Below w.heap.size w w) := Lib.hid (Below.refl _ _)
        obtain ⟨Xc, Xf⟩ := X.open
        obtain ⟨Yc, Yf⟩ := Y.open
        go_enter Try.func64, Try.ntmps64
        go_upto_region 1 with (fail)
        go_quiet ((first | (go_at_call 51; with_reducible exact quietX (fun n => specSameD _ _ _ _ _ _ _ (RowV.drawn h0 n) (RowV.drawn g0 n) q0 r0 m0 n0 true H0.out)) | (go_at_call 51; with_reducible exact quietX (fun n => specSameD _ _ _ _ _ _ _ (RowV.drawn h1 n) (RowV.drawn g1 n) q1 r1 m1 n1 true H1.out)) | (go_at_call 51; with_reducible exact quietX (fun n => specSameD _ _ _ _ _ _ _ (RowV.drawn h2 n) (RowV.drawn g2 n) q2 r2 m2 n2 false H2.out))))
        go_wp2
        go_ret
        exact ⟨by rw [HR.out]; rfl, below_drewN HB.out _⟩
      · skip
        have H0 := Lib.hid s0; clear s0
        have H1 := Lib.hid s1; clear s1
        have H2 := Lib.hid s2; clear s2
        have HR : Hid (sameFieldB e x y e2 x2 y2 = true) := Lib.hid (by rw [HV.out, H0.out, H1.out, H2.out]; rfl)
        have X := hg1; have Y := hg2; have HB : Hid (Below w.heap.size w w) := Lib.hid (Below.refl _ _)
        obtain ⟨Xc, Xf⟩ := X.open
        obtain ⟨Yc, Yf⟩ := Y.open
        go_enter Try.func64, Try.ntmps64
        go_upto_region 1 with (fail)
        go_quiet ((first | (go_at_call 51; with_reducible exact quietX (fun n => specSameD _ _ _ _ _ _ _ (RowV.drawn h0 n) (RowV.drawn g0 n) q0 r0 m0 n0 true H0.out)) | (go_at_call 51; with_reducible exact quietX (fun n => specSameD _ _ _ _ _ _ _ (RowV.drawn h1 n) (RowV.drawn g1 n) q1 r1 m1 n1 true H1.out)) | (go_at_call 51; with_reducible exact quietX (fun n => specSameD _ _ _ _ _ _ _ (RowV.drawn h2 n) (RowV.drawn g2 n) q2 r2 m2 n2 true H2.out))))
        go_wp2
        go_ret
        exact ⟨by rw [HR.out]; rfl, below_drewN HB.out _⟩

set_option maxHeartbeats 4000000 in
set_option maxRecDepth 100000 in
theorem specSameFieldL (a0 a1 a2 : Option Addr) (c0 c1 c2 : Nat) (e x y : List Nat) (b0 b1 b2 : Option Addr) (d0 d1 d2 : Nat) (e2 x2 y2 : List Nat) (w : World) (h0 : RowV w a0 (fvals e)) (h1 : RowV w a1 (fvals x)) (h2 : RowV w a2 (fvals y)) (q0 : ∀ z ∈ e, z < 2 ^ 32) (q1 : ∀ z ∈ x, z < 2 ^ 32) (q2 : ∀ z ∈ y, z < 2 ^ 32) (m0 : e.length ≤ maxLen) (m1 : x.length ≤ maxLen) (m2 : y.length ≤ maxLen) (g0 : RowV w b0 (fvals e2)) (g1 : RowV w b1 (fvals x2)) (g2 : RowV w b2 (fvals y2)) (r0 : ∀ z ∈ e2, z < 2 ^ 32) (r1 : ∀ z ∈ x2, z < 2 ^ 32) (r2 : ∀ z ∈ y2, z < 2 ^ 32) (n0 : e2.length ≤ maxLen) (n1 : x2.length ≤ maxLen) (n2 : y2.length ≤ maxLen) : Calls Try.prog 25 #[.agg #[.slice a0 e.length c0, .slice a1 x.length c1, .slice a2 y.length c2], .agg #[.slice b0 e2.length d0, .slice b1 x2.length d1, .slice b2 y2.length d2]] w fun e' w' => e' = .returned (.bool (sameFieldB e x y e2 x2 y2)) ∧ Below w.heap.size w w' := by
  have hv : sameFieldB e x y e2 x2 y2 = (sameB e e2 && (sameB x x2 && sameB y y2)) := rfl
  have HV := Lib.hid hv; clear hv
  have X := Blk.new w #[.slice a0 e.length c0, .slice a1 x.length c1, .slice a2 y.length c2] 39
  have Y := Blk.new1 w (.cells #[.slice a0 e.length c0, .slice a1 x.length c1, .slice a2 y.length c2] 39) #[.slice b0 e2.length d0, .slice b1 x2.length d1, .slice b2 y2.length d2] 39
  replace X := X.alloc (.cells #[.slice b0 e2.length d0, .slice b1 x2.length d1, .slice b2 y2.length d2] 39)
  have HB : Hid (Below w.heap.size w ((w.alloc (.cells #[.slice a0 e.length c0, .slice a1 x.length c1, .slice a2 y.length c2] 39)).alloc (.cells #[.slice b0 e2.length d0, .slice b1 x2.length d1, .slice b2 y2.length d2] 39))) := Lib.hid (((Below.refl w.heap.size w).alloc (by simp <;> omega) _).alloc (by simp <;> omega) _)
  go_enter Try.func25, Try.ntmps25
  go_wp2_with fail
  generalize ((w.alloc (.cells #[.slice a0 e.length c0, .slice a1 x.length c1, .slice a2 y.length c2] 39)).alloc (.cells #[.slice b0 e2.length d0, .slice b1 x2.length d1, .slice b2 y2.length d2] 39)) = u1 at *
  refine (specSame2 _ _ _ _ _ _ _ _ _ _ _ _ _ _ _ _ _ _ _ _ _ X Y (h0.later HB.out) (h1.later HB.out) (h2.later HB.out) q0 q1 q2 m0 m1 m2 (g0.later HB.out) (g1.later HB.out) (g2.later HB.out) r0 r1 r2 n0 n1 n2).mono ?_
  rintro r u2 ⟨rfl, q⟩
  replace X := X.later q
  replace Y := Y.later q
  replace HB := Lib.hid (HB.out.trans (q.mono HB.out.size))
  clear q
  go_wp2
  go_ret
  exact ⟨rfl, HB.out⟩

end Go.Proofs.Ytpnfgchifclhlaa
