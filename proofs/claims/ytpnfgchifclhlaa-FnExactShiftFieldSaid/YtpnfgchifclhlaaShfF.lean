/- Mirrored, exchanged and shifted fields: the program's and the model's. Conditions: none beyond those of each theorem. -/
import Derived.Test.YtpnfgchifclhlaaSwpF
import Derived.Test.YtpnfgchifclhlaaBu5
namespace Go.Proofs.Ytpnfgchifclhlaa
open Go Ieee Go.RowKit
set_option linter.unusedVariables false

def RelOut (u : World) (n : Nat) (L : List Nat) (s : Value) (wx : World) : Prop :=
  ∃ bw g k, s = .pointer (some ⟨bw, 0, none⟩) ∧ Blk wx bw #[.slice (some ⟨g, 0, none⟩) n k, .slice none 0 0, .slice none 0 0] 39 ∧ OwnV wx u.heap.size (some ⟨g, 0, none⟩) (fvals L) ∧ bw ≠ g ∧ u.heap.size ≤ bw ∧ u.heap.size ≤ g ∧ g < wx.heap.size ∧ Below u.heap.size u wx

theorem relOut_late {u v : World} {n g k B : Nat} {L : List Nat} (own : OwnV v B (some ⟨g, 0, none⟩) (fvals L)) (hB : u.heap.size ≤ B) (gl : B ≤ g) (gt : g < v.heap.size) (hb : Below u.heap.size u v) : RelOut u n L (.pointer (some ⟨v.heap.size, 0, none⟩)) (v.alloc (.cells #[.slice (some ⟨g, 0, none⟩) n k, .slice none 0 0, .slice none 0 0] 39)) :=
  ⟨v.heap.size, g, k, rfl, Blk.new _ _ _, (own.later (below_new _ _)).lower hB, by omega, hb.size, by omega, by simp; omega, hb.alloc hb.size _⟩

theorem relOut_early {u v : World} {n g k : Nat} {L : List Nat} {o : Obj} (own : OwnV v (((u.alloc o).drew).heap.size) (some ⟨g, 0, none⟩) (fvals L)) (gl : ((u.alloc o).drew).heap.size ≤ g) (gt : g < v.heap.size) (hx : Blk v u.heap.size #[.slice none 0 0, .slice none 0 0, .slice none 0 0] 39) (hb : Below u.heap.size u v) : RelOut u n L (.pointer (some ⟨u.heap.size, 0, none⟩)) (((v.setCell ⟨u.heap.size, 0, none⟩ (.slice (some ⟨g, 0, none⟩) n k)).setCell ⟨u.heap.size, 1, none⟩ (.slice none 0 0)).setCell ⟨u.heap.size, 2, none⟩ (.slice none 0 0)) := by
  have e : ((u.alloc o).drew).heap.size = u.heap.size + 1 := by show (u.heap.push o).size = _; simp
  rw [e] at own gl
  refine ⟨u.heap.size, g, k, rfl, ((hx.set 0 _).set 1 _).set 2 _, (((own.lower (Nat.le_succ _)).set (p := ⟨u.heap.size, 0, none⟩) (ne_block (h := u.heap.size) (by omega)) _).set (p := ⟨u.heap.size, 1, none⟩) (ne_block (h := u.heap.size) (by omega)) _).set (p := ⟨u.heap.size, 2, none⟩) (ne_block (h := u.heap.size) (by omega)) _, by omega, Nat.le_refl _, by omega, by simp; exact gt, ((hb.setCell (Nat.le_refl _) _).setCell (Nat.le_refl _) _).setCell (Nat.le_refl _) _⟩

theorem below_held2 {w u w' : World} {A B : Prop} (hu : Below w.heap.size w u) (k : A ∧ B ∧ Below u.heap.size u w') : Below w.heap.size w w' := hu.trans (k.2.2.mono hu.size)

theorem below_heldP2 {w u w' : World} {A B : Prop} {R : Nat} (hu : Below w.heap.size w u) (hR : w.heap.size ≤ R) (k : A ∧ B ∧ u.grownBy w' (some R)) : Below w.heap.size w w' := hu.grown k.2.2 hu.size (fun j hj => by cases hj; exact hR)

set_option maxHeartbeats 8000000 in
set_option maxRecDepth 100000 in
theorem implShiftFieldL (wd hi : Int) (wb : Bool) (a b : Option Addr) (ca cb : Nat) (xs ys : List Nat) (a0 a1 a2 : Option Addr) (c0 c1 c2 : Nat) (e x y : List Nat) (dx dy : Int) (w : World) (ha : RowV w a (fvals xs)) (hb : RowV w b (fvals ys)) (qa : ∀ z ∈ xs, z < 2 ^ 32) (qb : ∀ z ∈ ys, z < 2 ^ 32) (hx : xs.length ≤ maxLen) (hy : ys.length ≤ maxLen) (h0 : RowV w a0 (fvals e)) (h1 : RowV w a1 (fvals x)) (h2 : RowV w a2 (fvals y)) (q0 : ∀ z ∈ e, z < 2 ^ 32) (q1 : ∀ z ∈ x, z < 2 ^ 32) (q2 : ∀ z ∈ y, z < 2 ^ 32) (m0 : e.length ≤ maxLen) (m1 : x.length ≤ maxLen) (m2 : y.length ≤ maxLen) (w1 : (Lit.int .i64 dx).wf = true) (w2 : (Lit.int .i64 dy).wf = true) :
    Calls Try.prog 46 #[.agg #[.int .i64 wd, .int .i64 hi, .bool wb, .slice a xs.length ca, .slice b ys.length cb], .agg #[.slice a0 e.length c0, .slice a1 x.length c1, .slice a2 y.length c2], .int .i64 dx, .int .i64 dy] w (GaveF w (fieldB wd hi wb xs ys e x y && (wb && shiftB dx dy)) (placed (shfF wd hi dx dy) (wd * hi).toNat e) (placed (shfF wd hi dx dy) (wd * hi).toNat x) (placed (shfF wd hi dx dy) (wd * hi).toNat y)) := by
  have hfb := valB_split wd hi wb xs ys e x y; have HFB := Lib.hid hfb; clear hfb
  rcases hs : validB wd hi xs ys with _ | _
  · skip
    have hfbv : fieldB wd hi wb xs ys e x y = false := by rw [HFB.out, hs]; rfl
    have HBV : Hid ((fieldB wd hi wb xs ys e x y && (wb && shiftB dx dy)) = false) := Lib.hid (by rw [hfbv]; rfl)
    have H_fb := Lib.hid hfbv; clear hfbv
    have H_hs := Lib.hid hs; clear hs
    rw [HBV.out]
    have X := Blk.new w #[.int .i64 wd, .int .i64 hi, .bool wb, .slice a xs.length ca, .slice b ys.length cb] 27
    have Y := Blk.new1 w (.cells #[.int .i64 wd, .int .i64 hi, .bool wb, .slice a xs.length ca, .slice b ys.length cb] 27) #[.slice a0 e.length c0, .slice a1 x.length c1, .slice a2 y.length c2] 39
    replace X := X.alloc (.cells #[.slice a0 e.length c0, .slice a1 x.length c1, .slice a2 y.length c2] 39)
    have R := Blk.new2 w (.cells #[.int .i64 wd, .int .i64 hi, .bool wb, .slice a xs.length ca, .slice b ys.length cb] 27) (.cells #[.slice a0 e.length c0, .slice a1 x.length c1, .slice a2 y.length c2] 39) #[.slice none 0 0, .slice none 0 0, .slice none 0 0] 39
    replace X := X.alloc (.cells #[.slice none 0 0, .slice none 0 0, .slice none 0 0] 39)
    replace Y := Y.alloc (.cells #[.slice none 0 0, .slice none 0 0, .slice none 0 0] 39)
    have HB : Hid (Below w.heap.size w (((w.alloc (.cells #[.int .i64 wd, .int .i64 hi, .bool wb, .slice a xs.length ca, .slice b ys.length cb] 27)).alloc (.cells #[.slice a0 e.length c0, .slice a1 x.length c1, .slice a2 y.length c2] 39)).alloc (.cells #[.slice none 0 0, .slice none 0 0, .slice none 0 0] 39))) := Lib.hid ((((Below.refl w.heap.size w).alloc (by simp <;> omega) _).alloc (by simp <;> omega) _).alloc (by simp <;> omega) _)
    go_enter Try.func46, Try.ntmps46
    go_wp2_with fail
    generalize (((w.alloc (.cells #[.int .i64 wd, .int .i64 hi, .bool wb, .slice a xs.length ca, .slice b ys.length cb] 27)).alloc (.cells #[.slice a0 e.length c0, .slice a1 x.length c1, .slice a2 y.length c2] 39)).alloc (.cells #[.slice none 0 0, .slice none 0 0, .slice none 0 0] 39)) = u1 at *
    refine (implIsField _ _ _ _ _ _ _ _ _ _ _ _ _ _ _ _ _ _ _ (ha.later HB.out) (hb.later HB.out) hx hy (h0.later HB.out) (h1.later HB.out) (h2.later HB.out) m0 m1 m2).mono ?_
    rintro r u2 ⟨rfl, q⟩
    replace X := X.later q
    replace Y := Y.later q
    replace R := R.later q
    replace HB := Lib.hid (HB.out.trans (q.mono HB.out.size))
    clear q
    rw [H_fb.out]
    obtain ⟨Xc, Xf⟩ := X.open
    obtain ⟨Rc, Rf⟩ := R.open
    go_wp2
    refine bodyPost_ret (v := .tuple #[.agg #[.slice none 0 0, .slice none 0 0, .slice none 0 0], .bool false]) (by simp [results, Try.results46, go_sem, Rc]) rfl ⟨none, none, none, 0, 0, 0, [], [], [], rfl, GotField.none (((HB.out.setCell (p := ⟨w.heap.size + 1 + 1, 0, none⟩) (by first | omega | (simp <;> omega)) _).setCell (p := ⟨w.heap.size + 1 + 1, 1, none⟩) (by first | omega | (simp <;> omega)) _).setCell (p := ⟨w.heap.size + 1 + 1, 2, none⟩) (by first | omega | (simp <;> omega)) _)⟩
  rcases hf : fitsB wd hi wb e x y with _ | _
  · skip
    have hfbv : fieldB wd hi wb xs ys e x y = false := by rw [HFB.out, hs, hf]; rfl
    have HBV : Hid ((fieldB wd hi wb xs ys e x y && (wb && shiftB dx dy)) = false) := Lib.hid (by rw [hfbv]; rfl)
    have H_fb := Lib.hid hfbv; clear hfbv
    have H_hs := Lib.hid hs; clear hs
    have H_hf := Lib.hid hf; clear hf
    rw [HBV.out]
    have X := Blk.new w #[.int .i64 wd, .int .i64 hi, .bool wb, .slice a xs.length ca, .slice b ys.length cb] 27
    have Y := Blk.new1 w (.cells #[.int .i64 wd, .int .i64 hi, .bool wb, .slice a xs.length ca, .slice b ys.length cb] 27) #[.slice a0 e.length c0, .slice a1 x.length c1, .slice a2 y.length c2] 39
    replace X := X.alloc (.cells #[.slice a0 e.length c0, .slice a1 x.length c1, .slice a2 y.length c2] 39)
    have R := Blk.new2 w (.cells #[.int .i64 wd, .int .i64 hi, .bool wb, .slice a xs.length ca, .slice b ys.length cb] 27) (.cells #[.slice a0 e.length c0, .slice a1 x.length c1, .slice a2 y.length c2] 39) #[.slice none 0 0, .slice none 0 0, .slice none 0 0] 39
    replace X := X.alloc (.cells #[.slice none 0 0, .slice none 0 0, .slice none 0 0] 39)
    replace Y := Y.alloc (.cells #[.slice none 0 0, .slice none 0 0, .slice none 0 0] 39)
    have HB : Hid (Below w.heap.size w (((w.alloc (.cells #[.int .i64 wd, .int .i64 hi, .bool wb, .slice a xs.length ca, .slice b ys.length cb] 27)).alloc (.cells #[.slice a0 e.length c0, .slice a1 x.length c1, .slice a2 y.length c2] 39)).alloc (.cells #[.slice none 0 0, .slice none 0 0, .slice none 0 0] 39))) := Lib.hid ((((Below.refl w.heap.size w).alloc (by simp <;> omega) _).alloc (by simp <;> omega) _).alloc (by simp <;> omega) _)
    go_enter Try.func46, Try.ntmps46
    go_wp2_with fail
    generalize (((w.alloc (.cells #[.int .i64 wd, .int .i64 hi, .bool wb, .slice a xs.length ca, .slice b ys.length cb] 27)).alloc (.cells #[.slice a0 e.length c0, .slice a1 x.length c1, .slice a2 y.length c2] 39)).alloc (.cells #[.slice none 0 0, .slice none 0 0, .slice none 0 0] 39)) = u1 at *
    refine (implIsField _ _ _ _ _ _ _ _ _ _ _ _ _ _ _ _ _ _ _ (ha.later HB.out) (hb.later HB.out) hx hy (h0.later HB.out) (h1.later HB.out) (h2.later HB.out) m0 m1 m2).mono ?_
    rintro r u2 ⟨rfl, q⟩
    replace X := X.later q
    replace Y := Y.later q
    replace R := R.later q
    replace HB := Lib.hid (HB.out.trans (q.mono HB.out.size))
    clear q
    rw [H_fb.out]
    obtain ⟨Xc, Xf⟩ := X.open
    obtain ⟨Rc, Rf⟩ := R.open
    go_wp2
    refine bodyPost_ret (v := .tuple #[.agg #[.slice none 0 0, .slice none 0 0, .slice none 0 0], .bool false]) (by simp [results, Try.results46, go_sem, Rc]) rfl ⟨none, none, none, 0, 0, 0, [], [], [], rfl, GotField.none (((HB.out.setCell (p := ⟨w.heap.size + 1 + 1, 0, none⟩) (by first | omega | (simp <;> omega)) _).setCell (p := ⟨w.heap.size + 1 + 1, 1, none⟩) (by first | omega | (simp <;> omega)) _).setCell (p := ⟨w.heap.size + 1 + 1, 2, none⟩) (by first | omega | (simp <;> omega)) _)⟩
  rcases hw0 : wb with _ | _
  · skip
    have hfbv : fieldB wd hi wb xs ys e x y = true := by rw [HFB.out, hs, hf]; rfl
    have HBV : Hid ((fieldB wd hi wb xs ys e x y && (wb && shiftB dx dy)) = false) := Lib.hid (by rw [hfbv, hw0]; rfl)
    have H_fb := Lib.hid hfbv; clear hfbv
    have H_hs := Lib.hid hs; clear hs
    have H_hf := Lib.hid hf; clear hf
    subst hw0
    first | rw [HBV.out] | (have hbv := HBV.out; simp only [Bool.false_and, Bool.and_false, Bool.true_and, Bool.and_true] at hbv ⊢)
    have X := Blk.new w #[.int .i64 wd, .int .i64 hi, .bool false, .slice a xs.length ca, .slice b ys.length cb] 27
    have Y := Blk.new1 w (.cells #[.int .i64 wd, .int .i64 hi, .bool false, .slice a xs.length ca, .slice b ys.length cb] 27) #[.slice a0 e.length c0, .slice a1 x.length c1, .slice a2 y.length c2] 39
    replace X := X.alloc (.cells #[.slice a0 e.length c0, .slice a1 x.length c1, .slice a2 y.length c2] 39)
    have R := Blk.new2 w (.cells #[.int .i64 wd, .int .i64 hi, .bool false, .slice a xs.length ca, .slice b ys.length cb] 27) (.cells #[.slice a0 e.length c0, .slice a1 x.length c1, .slice a2 y.length c2] 39) #[.slice none 0 0, .slice none 0 0, .slice none 0 0] 39
    replace X := X.alloc (.cells #[.slice none 0 0, .slice none 0 0, .slice none 0 0] 39)
    replace Y := Y.alloc (.cells #[.slice none 0 0, .slice none 0 0, .slice none 0 0] 39)
    have HB : Hid (Below w.heap.size w (((w.alloc (.cells #[.int .i64 wd, .int .i64 hi, .bool false, .slice a xs.length ca, .slice b ys.length cb] 27)).alloc (.cells #[.slice a0 e.length c0, .slice a1 x.length c1, .slice a2 y.length c2] 39)).alloc (.cells #[.slice none 0 0, .slice none 0 0, .slice none 0 0] 39))) := Lib.hid ((((Below.refl w.heap.size w).alloc (by simp <;> omega) _).alloc (by simp <;> omega) _).alloc (by simp <;> omega) _)
    go_enter Try.func46, Try.ntmps46
    go_wp2_with fail
    generalize (((w.alloc (.cells #[.int .i64 wd, .int .i64 hi, .bool false, .slice a xs.length ca, .slice b ys.length cb] 27)).alloc (.cells #[.slice a0 e.length c0, .slice a1 x.length c1, .slice a2 y.length c2] 39)).alloc (.cells #[.slice none 0 0, .slice none 0 0, .slice none 0 0] 39)) = u1 at *
    refine (implIsField _ _ _ _ _ _ _ _ _ _ _ _ _ _ _ _ _ _ _ (ha.later HB.out) (hb.later HB.out) hx hy (h0.later HB.out) (h1.later HB.out) (h2.later HB.out) m0 m1 m2).mono ?_
    rintro r u2 ⟨rfl, q⟩
    replace X := X.later q
    replace Y := Y.later q
    replace R := R.later q
    replace HB := Lib.hid (HB.out.trans (q.mono HB.out.size))
    clear q
    rw [H_fb.out]
    obtain ⟨Xc, Xf⟩ := X.open
    go_wp2_with fail
    refine (implIsShift _ _ _ _ _ _ _ _ _ _ _ _).mono ?_
    rintro r u3 ⟨rfl, q⟩
    clear Xc Xf
    replace X := X.later q
    replace Y := Y.later q
    replace R := R.later q
    replace HB := Lib.hid (HB.out.trans (q.mono HB.out.size))
    clear q
    rw [show (false && shiftB dx dy) = false from rfl]
    obtain ⟨Xc, Xf⟩ := X.open
    obtain ⟨Rc, Rf⟩ := R.open
    go_wp2
    refine bodyPost_ret (v := .tuple #[.agg #[.slice none 0 0, .slice none 0 0, .slice none 0 0], .bool false]) (by simp [results, Try.results46, go_sem, Rc]) rfl ⟨none, none, none, 0, 0, 0, [], [], [], rfl, GotField.none (((HB.out.setCell (p := ⟨w.heap.size + 1 + 1, 0, none⟩) (by first | omega | (simp <;> omega)) _).setCell (p := ⟨w.heap.size + 1 + 1, 1, none⟩) (by first | omega | (simp <;> omega)) _).setCell (p := ⟨w.heap.size + 1 + 1, 2, none⟩) (by first | omega | (simp <;> omega)) _)⟩
  rcases hsf : shiftB dx dy with _ | _
  · skip
    have hfbv : fieldB wd hi wb xs ys e x y = true := by rw [HFB.out, hs, hf]; rfl
    have HBV : Hid ((fieldB wd hi wb xs ys e x y && (wb && shiftB dx dy)) = false) := Lib.hid (by rw [hfbv, hw0, hsf]; rfl)
    have H_fb := Lib.hid hfbv; clear hfbv
    have H_hs := Lib.hid hs; clear hs
    have H_hf := Lib.hid hf; clear hf
    subst hw0
    have H_hsf := Lib.hid hsf; clear hsf
    first | rw [HBV.out] | (have hbv := HBV.out; simp only [Bool.false_and, Bool.and_false, Bool.true_and, Bool.and_true] at hbv ⊢)
    have X := Blk.new w #[.int .i64 wd, .int .i64 hi, .bool true, .slice a xs.length ca, .slice b ys.length cb] 27
    have Y := Blk.new1 w (.cells #[.int .i64 wd, .int .i64 hi, .bool true, .slice a xs.length ca, .slice b ys.length cb] 27) #[.slice a0 e.length c0, .slice a1 x.length c1, .slice a2 y.length c2] 39
    replace X := X.alloc (.cells #[.slice a0 e.length c0, .slice a1 x.length c1, .slice a2 y.length c2] 39)
    have R := Blk.new2 w (.cells #[.int .i64 wd, .int .i64 hi, .bool true, .slice a xs.length ca, .slice b ys.length cb] 27) (.cells #[.slice a0 e.length c0, .slice a1 x.length c1, .slice a2 y.length c2] 39) #[.slice none 0 0, .slice none 0 0, .slice none 0 0] 39
    replace X := X.alloc (.cells #[.slice none 0 0, .slice none 0 0, .slice none 0 0] 39)
    replace Y := Y.alloc (.cells #[.slice none 0 0, .slice none 0 0, .slice none 0 0] 39)
    have HB : Hid (Below w.heap.size w (((w.alloc (.cells #[.int .i64 wd, .int .i64 hi, .bool true, .slice a xs.length ca, .slice b ys.length cb] 27)).alloc (.cells #[.slice a0 e.length c0, .slice a1 x.length c1, .slice a2 y.length c2] 39)).alloc (.cells #[.slice none 0 0, .slice none 0 0, .slice none 0 0] 39))) := Lib.hid ((((Below.refl w.heap.size w).alloc (by simp <;> omega) _).alloc (by simp <;> omega) _).alloc (by simp <;> omega) _)
    go_enter Try.func46, Try.ntmps46
    go_wp2_with fail
    generalize (((w.alloc (.cells #[.int .i64 wd, .int .i64 hi, .bool true, .slice a xs.length ca, .slice b ys.length cb] 27)).alloc (.cells #[.slice a0 e.length c0, .slice a1 x.length c1, .slice a2 y.length c2] 39)).alloc (.cells #[.slice none 0 0, .slice none 0 0, .slice none 0 0] 39)) = u1 at *
    refine (implIsField _ _ _ _ _ _ _ _ _ _ _ _ _ _ _ _ _ _ _ (ha.later HB.out) (hb.later HB.out) hx hy (h0.later HB.out) (h1.later HB.out) (h2.later HB.out) m0 m1 m2).mono ?_
    rintro r u2 ⟨rfl, q⟩
    replace X := X.later q
    replace Y := Y.later q
    replace R := R.later q
    replace HB := Lib.hid (HB.out.trans (q.mono HB.out.size))
    clear q
    rw [H_fb.out]
    obtain ⟨Xc, Xf⟩ := X.open
    go_wp2_with fail
    refine (implIsShift _ _ _ _ _ _ _ _ _ _ _ _).mono ?_
    rintro r u3 ⟨rfl, q⟩
    clear Xc Xf
    replace X := X.later q
    replace Y := Y.later q
    replace R := R.later q
    replace HB := Lib.hid (HB.out.trans (q.mono HB.out.size))
    clear q
    rw [show (true && shiftB dx dy) = false from H_hsf.out]
    obtain ⟨Xc, Xf⟩ := X.open
    obtain ⟨Rc, Rf⟩ := R.open
    go_wp2
    refine bodyPost_ret (v := .tuple #[.agg #[.slice none 0 0, .slice none 0 0, .slice none 0 0], .bool false]) (by simp [results, Try.results46, go_sem, Rc]) rfl ⟨none, none, none, 0, 0, 0, [], [], [], rfl, GotField.none (((HB.out.setCell (p := ⟨w.heap.size + 1 + 1, 0, none⟩) (by first | omega | (simp <;> omega)) _).setCell (p := ⟨w.heap.size + 1 + 1, 1, none⟩) (by first | omega | (simp <;> omega)) _).setCell (p := ⟨w.heap.size + 1 + 1, 2, none⟩) (by first | omega | (simp <;> omega)) _)⟩
  have hfbv : fieldB wd hi wb xs ys e x y = true := by rw [HFB.out, hs, hf]; rfl
  obtain ⟨s1, s2, s3, s4, hm2, _, _⟩ := valid_parts hs
  obtain ⟨_, _, l0, l1, l2⟩ := field_parts hfbv
  obtain ⟨n, hn⟩ := Int.eq_ofNat_of_zero_le (show 0 ≤ wd * hi by omega)
  have E0 : e.length = n := by omega
  have E1 : x.length = n := by omega
  have E2 : y.length = n := by omega
  have n256 : n ≤ 256 := by omega
  have n0 : 0 < n := by
    have := Int.mul_le_mul s1 s3 (by omega) (by omega); omega
  obtain ⟨e1, e2, e3, e4⟩ := shift_in hsf
  have HBV : Hid ((fieldB wd hi wb xs ys e x y && (wb && shiftB dx dy)) = true) := Lib.hid (by rw [hfbv, hw0, hsf]; rfl)
  subst hw0
  rw [show (fieldB wd hi true xs ys e x y && (true && true)) = true from by rw [hfbv]; rfl]
  have H_fb := Lib.hid hfbv; clear hfbv
  have H_hs := Lib.hid hs; clear hs
  have H_hf := Lib.hid hf; clear hf
  have H_hsf := Lib.hid hsf; clear hsf
  clear hm2 l0 l1 l2
  have HN := Lib.hid hn; have HE0 := Lib.hid E0; have HE1 := Lib.hid E1; have HE2 := Lib.hid E2
  rw [show (wd * hi).toNat = n by rw [hn]; rfl]
  have CV : ∀ u, Below w.heap.size w u → Calls Try.prog 70 #[.agg #[.int .i64 wd, .int .i64 hi, .bool true, .slice a xs.length ca, .slice b ys.length cb], .agg #[.slice a0 n c0, .slice a1 n c1, .slice a2 n c2]] u fun e w' => e = .returned (.bool true) ∧ Below u.heap.size u w' := fun u hu => by
    have := implIsField wd hi true a b ca cb xs ys a0 a1 a2 c0 c1 c2 e x y u (ha.later hu) (hb.later hu) hx hy (h0.later hu) (h1.later hu) (h2.later hu) m0 m1 m2
    rw [E0, E1, E2, H_fb.out] at this; exact this
  have HCV := Lib.hid CV; clear CV
  rw [E0, E1, E2]; clear E0 E1 E2 hn
  have X := Blk.new w #[.int .i64 wd, .int .i64 hi, .bool true, .slice a xs.length ca, .slice b ys.length cb] 27
  have Y := Blk.new1 w (.cells #[.int .i64 wd, .int .i64 hi, .bool true, .slice a xs.length ca, .slice b ys.length cb] 27) #[.slice a0 n c0, .slice a1 n c1, .slice a2 n c2] 39
  replace X := X.alloc (.cells #[.slice a0 n c0, .slice a1 n c1, .slice a2 n c2] 39)
  have R := Blk.new2 w (.cells #[.int .i64 wd, .int .i64 hi, .bool true, .slice a xs.length ca, .slice b ys.length cb] 27) (.cells #[.slice a0 n c0, .slice a1 n c1, .slice a2 n c2] 39) #[.slice none 0 0, .slice none 0 0, .slice none 0 0] 39
  replace X := X.alloc (.cells #[.slice none 0 0, .slice none 0 0, .slice none 0 0] 39)
  replace Y := Y.alloc (.cells #[.slice none 0 0, .slice none 0 0, .slice none 0 0] 39)
  have HB : Hid (Below w.heap.size w (((w.alloc (.cells #[.int .i64 wd, .int .i64 hi, .bool true, .slice a xs.length ca, .slice b ys.length cb] 27)).alloc (.cells #[.slice a0 n c0, .slice a1 n c1, .slice a2 n c2] 39)).alloc (.cells #[.slice none 0 0, .slice none 0 0, .slice none 0 0] 39))) := Lib.hid ((((Below.refl w.heap.size w).alloc (by simp <;> omega) _).alloc (by simp <;> omega) _).alloc (by simp <;> omega) _)
  go_enter Try.func46, Try.ntmps46
  go_wp2_with fail
  generalize (((w.alloc (.cells #[.int .i64 wd, .int .i64 hi, .bool true, .slice a xs.length ca, .slice b ys.length cb] 27)).alloc (.cells #[.slice a0 n c0, .slice a1 n c1, .slice a2 n c2] 39)).alloc (.cells #[.slice none 0 0, .slice none 0 0, .slice none 0 0] 39)) = u1 at *
  have zr := R.lt
  refine (HCV.out _ HB.out).mono ?_
  rintro r u2 ⟨rfl, q⟩
  replace X := X.later q
  replace Y := Y.later q
  replace R := R.later q
  replace HB := Lib.hid (HB.out.trans (q.mono HB.out.size))
  clear q
  obtain ⟨Xc, Xf⟩ := X.open
  go_wp2_with fail
  refine (implIsShift _ _ _ _ _ _ _ _ _ _ _ _).mono ?_
  rintro r u3 ⟨rfl, q⟩
  clear Xc Xf
  replace X := X.later q
  replace Y := Y.later q
  replace R := R.later q
  replace HB := Lib.hid (HB.out.trans (q.mono HB.out.size))
  clear q
  rw [show (true && shiftB dx dy) = true from H_hsf.out]
  have zR2 := R.lt
  obtain ⟨Xc, Xf⟩ := X.open
  go_wp2_with fail
  refine (implShapeOf _ _ _ _ _ _ _ _ _ _).mono ?_
  rintro r u4 ⟨rfl, q⟩
  clear Xc Xf
  replace X := X.later q
  replace Y := Y.later q
  replace R := R.later q
  replace HB := Lib.hid (HB.out.trans (q.mono HB.out.size))
  clear q
  go_wp2_with fail
  refine (impl_shiftCells _ _ _ _ _ _).mono ?_
  rintro r u5 ⟨gh, gb, rfl, HH, HC, q⟩
  replace X := X.later q
  replace Y := Y.later q
  replace R := R.later q
  replace HB := Lib.hid (HB.out.trans (q.mono HB.out.size))
  clear q
  have hHl := HH.lt; have hCl := HC.lt
  have zR4 := R.lt
  have V := Blk.new u5 #[.int .i64 wd, .int .i64 hi, .bool true, .int .i64 wd, .int .i64 hi, .bool true, .func (.func 109) #[] #[.pointer (some ⟨gh, 0, none⟩), .pointer (some ⟨gb, 0, none⟩)]] 89
  have q := below_new u5 (.cells #[.int .i64 wd, .int .i64 hi, .bool true, .int .i64 wd, .int .i64 hi, .bool true, .func (.func 109) #[] #[.pointer (some ⟨gh, 0, none⟩), .pointer (some ⟨gb, 0, none⟩)]] 89)
  replace X := X.later q
  replace Y := Y.later q
  replace R := R.later q
  replace HH := HH.later q
  replace HC := HC.later q
  replace HB := Lib.hid (HB.out.trans (q.mono HB.out.size))
  clear q
  obtain ⟨Vc, Vf⟩ := V.open
  obtain ⟨Yc, Yf⟩ := Y.open
  go_upto_region 4 with (fail)
  generalize u5.alloc (.cells #[.int .i64 wd, .int .i64 hi, .bool true, .int .i64 wd, .int .i64 hi, .bool true, .func (.func 109) #[] #[.pointer (some ⟨gh, 0, none⟩), .pointer (some ⟨gb, 0, none⟩)]] 89) = u6 at *
  have szv := V.lt; have szu : u5.heap.size < u6.heap.size := V.lt
  have zR := R.lt; have b6 := HB.out; have hR : w.heap.size ≤ w.heap.size + 1 + 1 := by omega
  clear Vc Vf
  clear Yc Yf
  have pl : ∀ f zs, 0 < (placed f n zs).length := fun f zs => by rw [placed_length]; exact n0
  have tl : ∀ f zs, 0 < (turned (placed f n zs)).length := fun f zs => by rw [turned_length, placed_length]; exact n0
  have PL := Lib.hid pl; have TL := Lib.hid tl; clear pl tl
  have HH1 := HH; have HC1 := HC
  have hne : gh ≠ w.heap.size + 1 + 1 := fun h => by subst h; have h1 : Blk u6 (w.heap.size + 1 + 1) _ _ := R; have h2 : Blk u6 (w.heap.size + 1 + 1) _ _ := HH; unfold Blk at h1 h2; rw [h1] at h2; injection h2 with h2; injection h2 with h2 _; simp at h2
  have cne : gb ≠ w.heap.size + 1 + 1 := fun h => by subst h; have h1 : Blk u6 (w.heap.size + 1 + 1) _ _ := R; have h2 : Blk u6 (w.heap.size + 1 + 1) _ _ := HC; unfold Blk at h1 h2; rw [h1] at h2; injection h2 with h2; injection h2 with h2 _; simp at h2
  have neV : u5.heap.size ≠ w.heap.size + 1 + 1 := by omega
  have neY : w.heap.size + 1 ≠ w.heap.size + 1 + 1 := by omega
  have tk0 : True := trivial; have tk1 : True := trivial; have tk2 : True := trivial
  go_region_held3 (fun w' => (∀ i, w'.cell? ⟨u5.heap.size, i, none⟩ = (#[.int .i64 wd, .int .i64 hi, .bool true, .int .i64 wd, .int .i64 hi, .bool true, .func (.func 109) #[] #[.pointer (some ⟨gh, 0, none⟩), .pointer (some ⟨gb, 0, none⟩)]] : Array Value)[i]?) ∧ (∀ i, w'.cell? ⟨w.heap.size + 1, i, none⟩ = (#[.slice a0 n c0, .slice a1 n c1, .slice a2 n c2] : Array Value)[i]?) ∧ u6.grownBy w' (some (w.heap.size + 1 + 1))) (first | with_reducible exact keepR2_start V Y | with_reducible exact keepR2_later V Y neV neY (by assumption) (by assumption) | exact keepR2_set3 V Y neV neY (by assumption) _ _ _)
    (first
      | (go_at_call 81; have _t := tk0; clear _t tk0; (with_reducible refine (implList_shf _ _ _ gh gb _ _ _ _ _ (shfF wd hi dx dy) n _ (row_heldR2 h0 b6 hR (by assumption)) s1 s2 s3 s4 (blk_heldR2 HH1 hne (by assumption)) (blk_heldR2 HC1 cne (by assumption)) e1 e2 e3 e4 HN.out HE0.out (shfF_impl s1 s3 HN.out)).mono ?_); intro r u7 hg0; obtain ⟨g0, k0, rfl, oo0, gl0, gt0, qa0⟩ := gotL_some hg0 (PL.out _ _); clear hg0)
      | (go_at_call 81; have _t := tk1; clear _t tk1; (with_reducible refine (implList_shf _ _ _ gh gb _ _ _ _ _ (shfF wd hi dx dy) n _ (row_heldR2 h1 b6 hR (by assumption)) s1 s2 s3 s4 (blk_heldR2 HH1 hne (by assumption)) (blk_heldR2 HC1 cne (by assumption)) e1 e2 e3 e4 HN.out HE1.out (shfF_impl s1 s3 HN.out)).mono ?_); intro r u8 hg1; obtain ⟨g1, k1, rfl, oo1, gl1, gt1, qa1⟩ := gotL_some hg1 (PL.out _ _); clear hg1)
      | (go_at_call 81; have _t := tk2; clear _t tk2; (with_reducible refine (implList_shf _ _ _ gh gb _ _ _ _ _ (shfF wd hi dx dy) n _ (row_heldR2 h2 b6 hR (by assumption)) s1 s2 s3 s4 (blk_heldR2 HH1 hne (by assumption)) (blk_heldR2 HC1 cne (by assumption)) e1 e2 e3 e4 HN.out HE2.out (shfF_impl s1 s3 HN.out)).mono ?_); intro r u9 hg2; obtain ⟨g2, k2, rfl, oo2, gl2, gt2, qa2⟩ := gotL_some hg2 (PL.out _ _); clear hg2; obtain ⟨Rc, Rf⟩ := (R.later (below_next (below_next (below_next (below_drew u6) qa0) qa1) qa2)).open))
  go_wp2
  have z1 := HB.out.size; have z2 : u6.heap.size ≤ u7.heap.size := qa0.size; have z3 : u7.heap.size ≤ u8.heap.size := qa1.size; have z4 : u8.heap.size ≤ u9.heap.size := qa2.size
  have y0 : u6.heap.size ≤ g0 := gl0; have y1 : u7.heap.size ≤ g1 := gl1; have y2 : u8.heap.size ≤ g2 := gl2
  refine bodyPost_ret (v := .tuple #[.agg #[.slice (some ⟨g0, 0, none⟩) n k0, .slice (some ⟨g1, 0, none⟩) n k1, .slice (some ⟨g2, 0, none⟩) n k2], .bool true]) (by simp [results, Try.results46, go_sem, Rc]) rfl ⟨some ⟨g0, 0, none⟩, some ⟨g1, 0, none⟩, some ⟨g2, 0, none⟩, k0, k1, k2, placed (shfF wd hi dx dy) n e, placed (shfF wd hi dx dy) n x, placed (shfF wd hi dx dy) n y, by simp only [turned_length, placed_length], (by exact ⟨(((((oo0.later (below_next qa1 qa2)).lower (show w.heap.size ≤ _ by first | omega | exact z1 | exact Nat.le_trans z1 z2 | exact Nat.le_trans z1 (Nat.le_trans z2 z3))).set (p := ⟨w.heap.size + 1 + 1, 0, none⟩) (ne_block (h := w.heap.size + 1 + 1) (by omega)) _).set (p := ⟨w.heap.size + 1 + 1, 1, none⟩) (ne_block (h := w.heap.size + 1 + 1) (by omega)) _).set (p := ⟨w.heap.size + 1 + 1, 2, none⟩) (ne_block (h := w.heap.size + 1 + 1) (by omega)) _), (((((oo1.later qa2).lower (show w.heap.size ≤ _ by first | omega | exact z1 | exact Nat.le_trans z1 z2 | exact Nat.le_trans z1 (Nat.le_trans z2 z3))).set (p := ⟨w.heap.size + 1 + 1, 0, none⟩) (ne_block (h := w.heap.size + 1 + 1) (by omega)) _).set (p := ⟨w.heap.size + 1 + 1, 1, none⟩) (ne_block (h := w.heap.size + 1 + 1) (by omega)) _).set (p := ⟨w.heap.size + 1 + 1, 2, none⟩) (ne_block (h := w.heap.size + 1 + 1) (by omega)) _), (((((oo2).lower (show w.heap.size ≤ _ by first | omega | exact z1 | exact Nat.le_trans z1 z2 | exact Nat.le_trans z1 (Nat.le_trans z2 z3))).set (p := ⟨w.heap.size + 1 + 1, 0, none⟩) (ne_block (h := w.heap.size + 1 + 1) (by omega)) _).set (p := ⟨w.heap.size + 1 + 1, 1, none⟩) (ne_block (h := w.heap.size + 1 + 1) (by omega)) _).set (p := ⟨w.heap.size + 1 + 1, 2, none⟩) (ne_block (h := w.heap.size + 1 + 1) (by omega)) _), apart_ne (by omega), apart_ne (by omega), apart_ne (by omega), is_placed q0 n256, is_placed q1 n256, is_placed q2 n256, ((((HB.out.trans ((below_next (below_next (below_next (below_drew u6) qa0) qa1) qa2).mono HB.out.size)).setCell (p := ⟨w.heap.size + 1 + 1, 0, none⟩) (by simp <;> omega) _).setCell (p := ⟨w.heap.size + 1 + 1, 1, none⟩) (by simp <;> omega) _).setCell (p := ⟨w.heap.size + 1 + 1, 2, none⟩) (by simp <;> omega) _)⟩)⟩

set_option maxHeartbeats 8000000 in
set_option maxRecDepth 100000 in
theorem specShiftFieldL (wd hi : Int) (wb : Bool) (a b : Option Addr) (ca cb : Nat) (xs ys : List Nat) (a0 a1 a2 : Option Addr) (c0 c1 c2 : Nat) (e x y : List Nat) (dx dy : Int) (w : World) (ha : RowV w a (fvals xs)) (hb : RowV w b (fvals ys)) (qa : ∀ z ∈ xs, z < 2 ^ 32) (qb : ∀ z ∈ ys, z < 2 ^ 32) (hx : xs.length ≤ maxLen) (hy : ys.length ≤ maxLen) (h0 : RowV w a0 (fvals e)) (h1 : RowV w a1 (fvals x)) (h2 : RowV w a2 (fvals y)) (q0 : ∀ z ∈ e, z < 2 ^ 32) (q1 : ∀ z ∈ x, z < 2 ^ 32) (q2 : ∀ z ∈ y, z < 2 ^ 32) (m0 : e.length ≤ maxLen) (m1 : x.length ≤ maxLen) (m2 : y.length ≤ maxLen) (w1 : (Lit.int .i64 dx).wf = true) (w2 : (Lit.int .i64 dy).wf = true) :
    Calls Try.prog 45 #[.agg #[.int .i64 wd, .int .i64 hi, .bool wb, .slice a xs.length ca, .slice b ys.length cb], .agg #[.slice a0 e.length c0, .slice a1 x.length c1, .slice a2 y.length c2], .int .i64 dx, .int .i64 dy] w (OwnF w (fieldB wd hi wb xs ys e x y && (wb && shiftB dx dy)) (placed (shfF wd hi dx dy) (wd * hi).toNat e) (placed (shfF wd hi dx dy) (wd * hi).toNat x) (placed (shfF wd hi dx dy) (wd * hi).toNat y)) := by
  have hfb := valB_split wd hi wb xs ys e x y; have HFB := Lib.hid hfb; clear hfb
  rcases hs : validB wd hi xs ys with _ | _
  · skip
    have hfbv : fieldB wd hi wb xs ys e x y = false := by rw [HFB.out, hs]; rfl
    have HBV : Hid ((fieldB wd hi wb xs ys e x y && (wb && shiftB dx dy)) = false) := Lib.hid (by rw [hfbv]; rfl)
    have H_fb := Lib.hid hfbv; clear hfbv
    have H_hs := Lib.hid hs; clear hs
    rw [HBV.out]
    have X := Blk.new w #[.int .i64 wd, .int .i64 hi, .bool wb, .slice a xs.length ca, .slice b ys.length cb] 27
    have Y := Blk.new1 w (.cells #[.int .i64 wd, .int .i64 hi, .bool wb, .slice a xs.length ca, .slice b ys.length cb] 27) #[.slice a0 e.length c0, .slice a1 x.length c1, .slice a2 y.length c2] 39
    replace X := X.alloc (.cells #[.slice a0 e.length c0, .slice a1 x.length c1, .slice a2 y.length c2] 39)
    have R := Blk.new2 w (.cells #[.int .i64 wd, .int .i64 hi, .bool wb, .slice a xs.length ca, .slice b ys.length cb] 27) (.cells #[.slice a0 e.length c0, .slice a1 x.length c1, .slice a2 y.length c2] 39) #[.slice none 0 0, .slice none 0 0, .slice none 0 0] 39
    replace X := X.alloc (.cells #[.slice none 0 0, .slice none 0 0, .slice none 0 0] 39)
    replace Y := Y.alloc (.cells #[.slice none 0 0, .slice none 0 0, .slice none 0 0] 39)
    have HB : Hid (Below w.heap.size w (((w.alloc (.cells #[.int .i64 wd, .int .i64 hi, .bool wb, .slice a xs.length ca, .slice b ys.length cb] 27)).alloc (.cells #[.slice a0 e.length c0, .slice a1 x.length c1, .slice a2 y.length c2] 39)).alloc (.cells #[.slice none 0 0, .slice none 0 0, .slice none 0 0] 39))) := Lib.hid ((((Below.refl w.heap.size w).alloc (by simp <;> omega) _).alloc (by simp <;> omega) _).alloc (by simp <;> omega) _)
    go_enter Try.func45, Try.ntmps45
    go_wp2_with fail
    generalize (((w.alloc (.cells #[.int .i64 wd, .int .i64 hi, .bool wb, .slice a xs.length ca, .slice b ys.length cb] 27)).alloc (.cells #[.slice a0 e.length c0, .slice a1 x.length c1, .slice a2 y.length c2] 39)).alloc (.cells #[.slice none 0 0, .slice none 0 0, .slice none 0 0] 39)) = u1 at *
    refine (specIs _ _ _ _ _ _ _ _ _ _ _ X (ha.later HB.out) (hb.later HB.out) hx hy).mono ?_
    rintro r u2 ⟨rfl, nq, hw⟩
    have q : Below u1.heap.size u1 u2 := by rw [hw]; exact below_drewN (Below.refl _ _) _
    clear hw
    replace X := X.later q
    replace Y := Y.later q
    replace R := R.later q
    replace HB := Lib.hid (HB.out.trans (q.mono HB.out.size))
    clear q
    rw [H_hs.out]
    obtain ⟨Xc, Xf⟩ := X.open
    obtain ⟨Rc, Rf⟩ := R.open
    go_wp2
    refine bodyPost_ret (v := .tuple #[.agg #[.slice none 0 0, .slice none 0 0, .slice none 0 0], .bool false]) (by simp [results, Try.results45, go_sem, Rc]) rfl ⟨none, none, none, 0, 0, 0, [], [], [], rfl, OwnField.none (((HB.out.setCell (p := ⟨w.heap.size + 1 + 1, 0, none⟩) (by first | omega | (simp <;> omega)) _).setCell (p := ⟨w.heap.size + 1 + 1, 1, none⟩) (by first | omega | (simp <;> omega)) _).setCell (p := ⟨w.heap.size + 1 + 1, 2, none⟩) (by first | omega | (simp <;> omega)) _)⟩
  rcases hf : fitsB wd hi wb e x y with _ | _
  · skip
    have hfbv : fieldB wd hi wb xs ys e x y = false := by rw [HFB.out, hs, hf]; rfl
    obtain ⟨s1, s2, s3, s4, t1, t2⟩ := sides_mul (valid_sides hs)
    have HBV : Hid ((fieldB wd hi wb xs ys e x y && (wb && shiftB dx dy)) = false) := Lib.hid (by rw [hfbv]; rfl)
    have H_fb := Lib.hid hfbv; clear hfbv
    have H_hs := Lib.hid hs; clear hs
    have H_hf := Lib.hid hf; clear hf
    rw [HBV.out]
    have X := Blk.new w #[.int .i64 wd, .int .i64 hi, .bool wb, .slice a xs.length ca, .slice b ys.length cb] 27
    have Y := Blk.new1 w (.cells #[.int .i64 wd, .int .i64 hi, .bool wb, .slice a xs.length ca, .slice b ys.length cb] 27) #[.slice a0 e.length c0, .slice a1 x.length c1, .slice a2 y.length c2] 39
    replace X := X.alloc (.cells #[.slice a0 e.length c0, .slice a1 x.length c1, .slice a2 y.length c2] 39)
    have R := Blk.new2 w (.cells #[.int .i64 wd, .int .i64 hi, .bool wb, .slice a xs.length ca, .slice b ys.length cb] 27) (.cells #[.slice a0 e.length c0, .slice a1 x.length c1, .slice a2 y.length c2] 39) #[.slice none 0 0, .slice none 0 0, .slice none 0 0] 39
    replace X := X.alloc (.cells #[.slice none 0 0, .slice none 0 0, .slice none 0 0] 39)
    replace Y := Y.alloc (.cells #[.slice none 0 0, .slice none 0 0, .slice none 0 0] 39)
    have HB : Hid (Below w.heap.size w (((w.alloc (.cells #[.int .i64 wd, .int .i64 hi, .bool wb, .slice a xs.length ca, .slice b ys.length cb] 27)).alloc (.cells #[.slice a0 e.length c0, .slice a1 x.length c1, .slice a2 y.length c2] 39)).alloc (.cells #[.slice none 0 0, .slice none 0 0, .slice none 0 0] 39))) := Lib.hid ((((Below.refl w.heap.size w).alloc (by simp <;> omega) _).alloc (by simp <;> omega) _).alloc (by simp <;> omega) _)
    go_enter Try.func45, Try.ntmps45
    go_wp2_with fail
    generalize (((w.alloc (.cells #[.int .i64 wd, .int .i64 hi, .bool wb, .slice a xs.length ca, .slice b ys.length cb] 27)).alloc (.cells #[.slice a0 e.length c0, .slice a1 x.length c1, .slice a2 y.length c2] 39)).alloc (.cells #[.slice none 0 0, .slice none 0 0, .slice none 0 0] 39)) = u1 at *
    refine (specIs _ _ _ _ _ _ _ _ _ _ _ X (ha.later HB.out) (hb.later HB.out) hx hy).mono ?_
    rintro r u2 ⟨rfl, nq, hw⟩
    have q : Below u1.heap.size u1 u2 := by rw [hw]; exact below_drewN (Below.refl _ _) _
    clear hw
    replace X := X.later q
    replace Y := Y.later q
    replace R := R.later q
    replace HB := Lib.hid (HB.out.trans (q.mono HB.out.size))
    clear q
    rw [H_hs.out]
    obtain ⟨Xc, Xf⟩ := X.open
    cases wb with
    | false =>
      clear Xc Xf
      obtain ⟨Xc, Xf⟩ := X.open
      obtain ⟨Rc, Rf⟩ := R.open
      go_wp2
      refine bodyPost_ret (v := .tuple #[.agg #[.slice none 0 0, .slice none 0 0, .slice none 0 0], .bool false]) (by simp [results, Try.results45, go_sem, Rc]) rfl ⟨none, none, none, 0, 0, 0, [], [], [], rfl, OwnField.none (((HB.out.setCell (p := ⟨w.heap.size + 1 + 1, 0, none⟩) (by first | omega | (simp <;> omega)) _).setCell (p := ⟨w.heap.size + 1 + 1, 1, none⟩) (by first | omega | (simp <;> omega)) _).setCell (p := ⟨w.heap.size + 1 + 1, 2, none⟩) (by first | omega | (simp <;> omega)) _)⟩
    | true =>
      go_wp2_with fail
      refine (specFits _ _ _ _ _ _ _ _ _ _ _ _ _ _ _ _ _ _ _ _ _ X Y s1 s2 s3 s4 (h0.later HB.out) (h1.later HB.out) (h2.later HB.out) m0 m1 m2).mono ?_
      rintro r u3 ⟨rfl, nq, hw⟩
      have q : Below u2.heap.size u2 u3 := by rw [hw]; exact below_drewN (Below.refl _ _) _
      clear hw
      clear Xc Xf
      replace X := X.later q
      replace Y := Y.later q
      replace R := R.later q
      replace HB := Lib.hid (HB.out.trans (q.mono HB.out.size))
      clear q
      rw [H_hf.out]
      obtain ⟨Xc, Xf⟩ := X.open
      obtain ⟨Rc, Rf⟩ := R.open
      go_wp2
      refine bodyPost_ret (v := .tuple #[.agg #[.slice none 0 0, .slice none 0 0, .slice none 0 0], .bool false]) (by simp [results, Try.results45, go_sem, Rc]) rfl ⟨none, none, none, 0, 0, 0, [], [], [], rfl, OwnField.none (((HB.out.setCell (p := ⟨w.heap.size + 1 + 1, 0, none⟩) (by first | omega | (simp <;> omega)) _).setCell (p := ⟨w.heap.size + 1 + 1, 1, none⟩) (by first | omega | (simp <;> omega)) _).setCell (p := ⟨w.heap.size + 1 + 1, 2, none⟩) (by first | omega | (simp <;> omega)) _)⟩
  rcases hw0 : wb with _ | _
  · skip
    have hfbv : fieldB wd hi wb xs ys e x y = true := by rw [HFB.out, hs, hf]; rfl
    obtain ⟨s1, s2, s3, s4, t1, t2⟩ := sides_mul (valid_sides hs)
    have HBV : Hid ((fieldB wd hi wb xs ys e x y && (wb && shiftB dx dy)) = false) := Lib.hid (by rw [hfbv, hw0]; rfl)
    have H_fb := Lib.hid hfbv; clear hfbv
    have H_hs := Lib.hid hs; clear hs
    have H_hf := Lib.hid hf; clear hf
    subst hw0
    first | rw [HBV.out] | (have hbv := HBV.out; simp only [Bool.false_and, Bool.and_false, Bool.true_and, Bool.and_true] at hbv ⊢)
    have X := Blk.new w #[.int .i64 wd, .int .i64 hi, .bool false, .slice a xs.length ca, .slice b ys.length cb] 27
    have Y := Blk.new1 w (.cells #[.int .i64 wd, .int .i64 hi, .bool false, .slice a xs.length ca, .slice b ys.length cb] 27) #[.slice a0 e.length c0, .slice a1 x.length c1, .slice a2 y.length c2] 39
    replace X := X.alloc (.cells #[.slice a0 e.length c0, .slice a1 x.length c1, .slice a2 y.length c2] 39)
    have R := Blk.new2 w (.cells #[.int .i64 wd, .int .i64 hi, .bool false, .slice a xs.length ca, .slice b ys.length cb] 27) (.cells #[.slice a0 e.length c0, .slice a1 x.length c1, .slice a2 y.length c2] 39) #[.slice none 0 0, .slice none 0 0, .slice none 0 0] 39
    replace X := X.alloc (.cells #[.slice none 0 0, .slice none 0 0, .slice none 0 0] 39)
    replace Y := Y.alloc (.cells #[.slice none 0 0, .slice none 0 0, .slice none 0 0] 39)
    have HB : Hid (Below w.heap.size w (((w.alloc (.cells #[.int .i64 wd, .int .i64 hi, .bool false, .slice a xs.length ca, .slice b ys.length cb] 27)).alloc (.cells #[.slice a0 e.length c0, .slice a1 x.length c1, .slice a2 y.length c2] 39)).alloc (.cells #[.slice none 0 0, .slice none 0 0, .slice none 0 0] 39))) := Lib.hid ((((Below.refl w.heap.size w).alloc (by simp <;> omega) _).alloc (by simp <;> omega) _).alloc (by simp <;> omega) _)
    go_enter Try.func45, Try.ntmps45
    go_wp2_with fail
    generalize (((w.alloc (.cells #[.int .i64 wd, .int .i64 hi, .bool false, .slice a xs.length ca, .slice b ys.length cb] 27)).alloc (.cells #[.slice a0 e.length c0, .slice a1 x.length c1, .slice a2 y.length c2] 39)).alloc (.cells #[.slice none 0 0, .slice none 0 0, .slice none 0 0] 39)) = u1 at *
    refine (specIs _ _ _ _ _ _ _ _ _ _ _ X (ha.later HB.out) (hb.later HB.out) hx hy).mono ?_
    rintro r u2 ⟨rfl, nq, hw⟩
    have q : Below u1.heap.size u1 u2 := by rw [hw]; exact below_drewN (Below.refl _ _) _
    clear hw
    replace X := X.later q
    replace Y := Y.later q
    replace R := R.later q
    replace HB := Lib.hid (HB.out.trans (q.mono HB.out.size))
    clear q
    rw [H_hs.out]
    obtain ⟨Xc, Xf⟩ := X.open
    clear Xc Xf
    obtain ⟨Xc, Xf⟩ := X.open
    obtain ⟨Rc, Rf⟩ := R.open
    go_wp2
    refine bodyPost_ret (v := .tuple #[.agg #[.slice none 0 0, .slice none 0 0, .slice none 0 0], .bool false]) (by simp [results, Try.results45, go_sem, Rc]) rfl ⟨none, none, none, 0, 0, 0, [], [], [], rfl, OwnField.none (((HB.out.setCell (p := ⟨w.heap.size + 1 + 1, 0, none⟩) (by first | omega | (simp <;> omega)) _).setCell (p := ⟨w.heap.size + 1 + 1, 1, none⟩) (by first | omega | (simp <;> omega)) _).setCell (p := ⟨w.heap.size + 1 + 1, 2, none⟩) (by first | omega | (simp <;> omega)) _)⟩
  rcases hsf : shiftB dx dy with _ | _
  · skip
    have hfbv : fieldB wd hi wb xs ys e x y = true := by rw [HFB.out, hs, hf]; rfl
    obtain ⟨s1, s2, s3, s4, t1, t2⟩ := sides_mul (valid_sides hs)
    have HBV : Hid ((fieldB wd hi wb xs ys e x y && (wb && shiftB dx dy)) = false) := Lib.hid (by rw [hfbv, hw0, hsf]; rfl)
    have H_fb := Lib.hid hfbv; clear hfbv
    have H_hs := Lib.hid hs; clear hs
    have H_hf := Lib.hid hf; clear hf
    subst hw0
    have H_hsf := Lib.hid hsf; clear hsf
    first | rw [HBV.out] | (have hbv := HBV.out; simp only [Bool.false_and, Bool.and_false, Bool.true_and, Bool.and_true] at hbv ⊢)
    have X := Blk.new w #[.int .i64 wd, .int .i64 hi, .bool true, .slice a xs.length ca, .slice b ys.length cb] 27
    have Y := Blk.new1 w (.cells #[.int .i64 wd, .int .i64 hi, .bool true, .slice a xs.length ca, .slice b ys.length cb] 27) #[.slice a0 e.length c0, .slice a1 x.length c1, .slice a2 y.length c2] 39
    replace X := X.alloc (.cells #[.slice a0 e.length c0, .slice a1 x.length c1, .slice a2 y.length c2] 39)
    have R := Blk.new2 w (.cells #[.int .i64 wd, .int .i64 hi, .bool true, .slice a xs.length ca, .slice b ys.length cb] 27) (.cells #[.slice a0 e.length c0, .slice a1 x.length c1, .slice a2 y.length c2] 39) #[.slice none 0 0, .slice none 0 0, .slice none 0 0] 39
    replace X := X.alloc (.cells #[.slice none 0 0, .slice none 0 0, .slice none 0 0] 39)
    replace Y := Y.alloc (.cells #[.slice none 0 0, .slice none 0 0, .slice none 0 0] 39)
    have HB : Hid (Below w.heap.size w (((w.alloc (.cells #[.int .i64 wd, .int .i64 hi, .bool true, .slice a xs.length ca, .slice b ys.length cb] 27)).alloc (.cells #[.slice a0 e.length c0, .slice a1 x.length c1, .slice a2 y.length c2] 39)).alloc (.cells #[.slice none 0 0, .slice none 0 0, .slice none 0 0] 39))) := Lib.hid ((((Below.refl w.heap.size w).alloc (by simp <;> omega) _).alloc (by simp <;> omega) _).alloc (by simp <;> omega) _)
    go_enter Try.func45, Try.ntmps45
    go_wp2_with fail
    generalize (((w.alloc (.cells #[.int .i64 wd, .int .i64 hi, .bool true, .slice a xs.length ca, .slice b ys.length cb] 27)).alloc (.cells #[.slice a0 e.length c0, .slice a1 x.length c1, .slice a2 y.length c2] 39)).alloc (.cells #[.slice none 0 0, .slice none 0 0, .slice none 0 0] 39)) = u1 at *
    refine (specIs _ _ _ _ _ _ _ _ _ _ _ X (ha.later HB.out) (hb.later HB.out) hx hy).mono ?_
    rintro r u2 ⟨rfl, nq, hw⟩
    have q : Below u1.heap.size u1 u2 := by rw [hw]; exact below_drewN (Below.refl _ _) _
    clear hw
    replace X := X.later q
    replace Y := Y.later q
    replace R := R.later q
    replace HB := Lib.hid (HB.out.trans (q.mono HB.out.size))
    clear q
    rw [H_hs.out]
    obtain ⟨Xc, Xf⟩ := X.open
    go_wp2_with fail
    refine (specFits _ _ _ _ _ _ _ _ _ _ _ _ _ _ _ _ _ _ _ _ _ X Y s1 s2 s3 s4 (h0.later HB.out) (h1.later HB.out) (h2.later HB.out) m0 m1 m2).mono ?_
    rintro r u3 ⟨rfl, nq, hw⟩
    have q : Below u2.heap.size u2 u3 := by rw [hw]; exact below_drewN (Below.refl _ _) _
    clear hw
    clear Xc Xf
    replace X := X.later q
    replace Y := Y.later q
    replace R := R.later q
    replace HB := Lib.hid (HB.out.trans (q.mono HB.out.size))
    clear q
    rw [H_hf.out]
    go_wp2_with fail
    refine (specShift _ _ _).mono ?_
    rintro r _ ⟨rfl, rfl⟩
    rw [H_hsf.out]
    obtain ⟨Xc, Xf⟩ := X.open
    obtain ⟨Rc, Rf⟩ := R.open
    go_wp2
    refine bodyPost_ret (v := .tuple #[.agg #[.slice none 0 0, .slice none 0 0, .slice none 0 0], .bool false]) (by simp [results, Try.results45, go_sem, Rc]) rfl ⟨none, none, none, 0, 0, 0, [], [], [], rfl, OwnField.none (((HB.out.setCell (p := ⟨w.heap.size + 1 + 1, 0, none⟩) (by first | omega | (simp <;> omega)) _).setCell (p := ⟨w.heap.size + 1 + 1, 1, none⟩) (by first | omega | (simp <;> omega)) _).setCell (p := ⟨w.heap.size + 1 + 1, 2, none⟩) (by first | omega | (simp <;> omega)) _)⟩
  have hfbv : fieldB wd hi wb xs ys e x y = true := by rw [HFB.out, hs, hf]; rfl
  obtain ⟨s1, s2, s3, s4, hm2, _, _⟩ := valid_parts hs
  obtain ⟨_, _, l0, l1, l2⟩ := field_parts hfbv
  obtain ⟨n, hn⟩ := Int.eq_ofNat_of_zero_le (show 0 ≤ wd * hi by omega)
  have E0 : e.length = n := by omega
  have E1 : x.length = n := by omega
  have E2 : y.length = n := by omega
  have n256 : n ≤ 256 := by omega
  have n0 : 0 < n := by
    have := Int.mul_le_mul s1 s3 (by omega) (by omega); omega
  obtain ⟨e1, e2, e3, e4⟩ := shift_in hsf
  have HBV : Hid ((fieldB wd hi wb xs ys e x y && (wb && shiftB dx dy)) = true) := Lib.hid (by rw [hfbv, hw0, hsf]; rfl)
  subst hw0
  rw [show (fieldB wd hi true xs ys e x y && (true && true)) = true from by rw [hfbv]; rfl]
  have H_fb := Lib.hid hfbv; clear hfbv
  have H_hs := Lib.hid hs; clear hs
  have H_hf := Lib.hid hf; clear hf
  have H_hsf := Lib.hid hsf; clear hsf
  clear hm2 l0 l1 l2
  have HN := Lib.hid hn; have HE0 := Lib.hid E0; have HE1 := Lib.hid E1; have HE2 := Lib.hid E2
  rw [show (wd * hi).toNat = n by rw [hn]; rfl]
  have CV : ∀ u, Below w.heap.size w u → Blk u w.heap.size #[.int .i64 wd, .int .i64 hi, .bool true, .slice a xs.length ca, .slice b ys.length cb] 27 → Calls Try.prog 66 #[.pointer (some ⟨w.heap.size, 0, none⟩)] u fun e w' => e = .returned (.bool true) ∧ Below u.heap.size u w' := fun u hu X => by
    have := specIs w.heap.size wd hi true a b ca cb xs ys u X (ha.later hu) (hb.later hu) hx hy
    rw [H_hs.out] at this
    exact this.mono fun e w' ⟨h, nq, hw⟩ => ⟨h, by rw [hw]; exact below_drewN (Below.refl _ _) _⟩
  have CV2 : ∀ u, Below w.heap.size w u → Blk u w.heap.size #[.int .i64 wd, .int .i64 hi, .bool true, .slice a xs.length ca, .slice b ys.length cb] 27 → Blk u (w.heap.size + 1) #[.slice a0 n c0, .slice a1 n c1, .slice a2 n c2] 39 → Calls Try.prog 67 #[.pointer (some ⟨w.heap.size, 0, none⟩), .pointer (some ⟨w.heap.size + 1, 0, none⟩)] u fun e w' => e = .returned (.bool true) ∧ Below u.heap.size u w' := fun u hu X Y => by
    have := specFits w.heap.size (w.heap.size + 1) wd hi true a b ca cb xs ys a0 a1 a2 c0 c1 c2 e x y u X (by rw [E0, E1, E2]; exact Y) s1 s2 s3 s4 (h0.later hu) (h1.later hu) (h2.later hu) m0 m1 m2
    rw [H_hf.out] at this
    exact this.mono fun e w' ⟨h, nq, hw⟩ => ⟨h, by rw [hw]; exact below_drewN (Below.refl _ _) _⟩
  have HCV2 := Lib.hid CV2; clear CV2
  have HCV := Lib.hid CV; clear CV
  rw [E0, E1, E2]; clear E0 E1 E2 hn
  have X := Blk.new w #[.int .i64 wd, .int .i64 hi, .bool true, .slice a xs.length ca, .slice b ys.length cb] 27
  have Y := Blk.new1 w (.cells #[.int .i64 wd, .int .i64 hi, .bool true, .slice a xs.length ca, .slice b ys.length cb] 27) #[.slice a0 n c0, .slice a1 n c1, .slice a2 n c2] 39
  replace X := X.alloc (.cells #[.slice a0 n c0, .slice a1 n c1, .slice a2 n c2] 39)
  have R := Blk.new2 w (.cells #[.int .i64 wd, .int .i64 hi, .bool true, .slice a xs.length ca, .slice b ys.length cb] 27) (.cells #[.slice a0 n c0, .slice a1 n c1, .slice a2 n c2] 39) #[.slice none 0 0, .slice none 0 0, .slice none 0 0] 39
  replace X := X.alloc (.cells #[.slice none 0 0, .slice none 0 0, .slice none 0 0] 39)
  replace Y := Y.alloc (.cells #[.slice none 0 0, .slice none 0 0, .slice none 0 0] 39)
  have HB : Hid (Below w.heap.size w (((w.alloc (.cells #[.int .i64 wd, .int .i64 hi, .bool true, .slice a xs.length ca, .slice b ys.length cb] 27)).alloc (.cells #[.slice a0 n c0, .slice a1 n c1, .slice a2 n c2] 39)).alloc (.cells #[.slice none 0 0, .slice none 0 0, .slice none 0 0] 39))) := Lib.hid ((((Below.refl w.heap.size w).alloc (by simp <;> omega) _).alloc (by simp <;> omega) _).alloc (by simp <;> omega) _)
  go_enter Try.func45, Try.ntmps45
  go_wp2_with fail
  generalize (((w.alloc (.cells #[.int .i64 wd, .int .i64 hi, .bool true, .slice a xs.length ca, .slice b ys.length cb] 27)).alloc (.cells #[.slice a0 n c0, .slice a1 n c1, .slice a2 n c2] 39)).alloc (.cells #[.slice none 0 0, .slice none 0 0, .slice none 0 0] 39)) = u1 at *
  have zr := R.lt
  refine (HCV.out _ HB.out X).mono ?_
  rintro r u2 ⟨rfl, q⟩
  replace X := X.later q
  replace Y := Y.later q
  replace R := R.later q
  replace HB := Lib.hid (HB.out.trans (q.mono HB.out.size))
  clear q
  obtain ⟨Xc, Xf⟩ := X.open
  go_wp2_with fail
  refine (HCV2.out _ HB.out X Y).mono ?_
  rintro r u3 ⟨rfl, q⟩
  clear Xc Xf
  replace X := X.later q
  replace Y := Y.later q
  replace R := R.later q
  replace HB := Lib.hid (HB.out.trans (q.mono HB.out.size))
  clear q
  go_wp2_with fail
  refine (specShift _ _ _).mono ?_
  rintro r _ ⟨rfl, rfl⟩
  rw [H_hsf.out]
  have zR2 := R.lt
  have n1 : wd ≠ 0 := by omega
  have n2 : hi ≠ 0 := by omega
  have t1 : dx.tmod wd < wd := Int.tmod_lt_of_pos _ (by omega)
  have t2 : -wd < dx.tmod wd := Int.lt_tmod_of_pos _ (by omega)
  have t3 : dy.tmod hi < hi := Int.tmod_lt_of_pos _ (by omega)
  have t4 : -hi < dy.tmod hi := Int.lt_tmod_of_pos _ (by omega)
  have pl : ∀ f zs, 0 < (placed f n zs).length := fun f zs => by rw [placed_length]; exact n0
  have tl : ∀ f zs, 0 < (turned (placed f n zs)).length := fun f zs => by rw [turned_length, placed_length]; exact n0
  have PL := Lib.hid pl; have TL := Lib.hid tl; clear pl tl
  have C0 : ∀ u, Below w.heap.size w u → Calls Try.prog 79 #[.slice a0 n c0, .int .i64 wd, .int .i64 hi, .int .i64 3, .int .i64 (dx.tmod wd), .int .i64 (dy.tmod hi)] u (GotL u n (placed (shfF wd hi dx dy) n e)) := fun u hu => by
    have := specPlace3 a0 c0 e wd hi (dx.tmod wd) (dy.tmod hi) (shfF wd hi dx dy) n u (h0.later hu) s1 s2 s3 s4 t2 t1 t4 t3 HN.out HE0.out (shfF_spec s1 s3 HN.out)
    rw [HE0.out] at this; exact this
  have CC0 := Lib.hid C0; clear C0
  have C1 : ∀ u, Below w.heap.size w u → Calls Try.prog 79 #[.slice a1 n c1, .int .i64 wd, .int .i64 hi, .int .i64 3, .int .i64 (dx.tmod wd), .int .i64 (dy.tmod hi)] u (GotL u n (placed (shfF wd hi dx dy) n x)) := fun u hu => by
    have := specPlace3 a1 c1 x wd hi (dx.tmod wd) (dy.tmod hi) (shfF wd hi dx dy) n u (h1.later hu) s1 s2 s3 s4 t2 t1 t4 t3 HN.out HE1.out (shfF_spec s1 s3 HN.out)
    rw [HE1.out] at this; exact this
  have CC1 := Lib.hid C1; clear C1
  have C2 : ∀ u, Below w.heap.size w u → Calls Try.prog 79 #[.slice a2 n c2, .int .i64 wd, .int .i64 hi, .int .i64 3, .int .i64 (dx.tmod wd), .int .i64 (dy.tmod hi)] u (GotL u n (placed (shfF wd hi dx dy) n y)) := fun u hu => by
    have := specPlace3 a2 c2 y wd hi (dx.tmod wd) (dy.tmod hi) (shfF wd hi dx dy) n u (h2.later hu) s1 s2 s3 s4 t2 t1 t4 t3 HN.out HE2.out (shfF_spec s1 s3 HN.out)
    rw [HE2.out] at this; exact this
  have CC2 := Lib.hid C2; clear C2
  obtain ⟨Xc, Xf⟩ := X.open
  obtain ⟨Yc, Yf⟩ := Y.open
  go_upto_region 3 with (fail)
  clear Xc Xf
  clear Yc Yf
  go_cut [10] (fun sa wx => RelOut u3 n (placed (shfF wd hi dx dy) n e) sa wx)
  case first =>
    go_region_held3 (fun w' => (∀ i, w'.cell? ⟨w.heap.size, i, none⟩ = (#[.int .i64 wd, .int .i64 hi, .bool true, .slice a xs.length ca, .slice b ys.length cb] : Array Value)[i]?) ∧ (∀ i, w'.cell? ⟨w.heap.size + 1, i, none⟩ = (#[.slice a0 n c0, .slice a1 n c1, .slice a2 n c2] : Array Value)[i]?) ∧ Below u3.heap.size u3 w') (first | with_reducible exact keep2_start X Y | with_reducible exact keep2_later X Y (by assumption) (by assumption) | with_reducible exact keep2_later X Y (by assumption) (below_new _ _) | exact keep2_now X Y (below_next (below_new _ _) (below_drew _)) | exact keep2_now X Y (below_next (below_next (below_drew u3) qa0) (below_new _ _)) | exact keep2_now X Y ((((below_next (below_next (below_new u3 (.cells #[.slice none 0 0, .slice none 0 0, .slice none 0 0] 39)) (below_drew _)) qa0).setCell (p := ⟨_, 0, none⟩) (Nat.le_refl _) _).setCell (p := ⟨_, 1, none⟩) (Nat.le_refl _) _).setCell (p := ⟨_, 2, none⟩) (Nat.le_refl _) _))
      (first
        | (go_at_call 79; (with_reducible refine (CC0.out _ (below_held2 HB.out (by assumption))).mono ?_); intro r u4 hgot; obtain ⟨g0, k0, rfl, W0, gl0, gt0, qa0⟩ := gotL_some hgot (PL.out _ _); clear hgot; (first | (have bx0 := (Blk.later (w := (u3.alloc (.cells #[.slice none 0 0, .slice none 0 0, .slice none 0 0] 39)).drew) (Blk.new u3 #[.slice none 0 0, .slice none 0 0, .slice none 0 0] 39) qa0); obtain ⟨bxc, bxf⟩ := bx0.open; clear bx0) | skip)))
    all_goals go_wp2
    all_goals go_meet
    all_goals (case rel => (first
        | exact relOut_late W0 (by first | exact Nat.le_refl _ | simp) gl0 gt0 (below_next (below_drew u3) qa0)
        | exact relOut_early W0 gl0 gt0 (Blk.later (w := (u3.alloc (.cells #[.slice none 0 0, .slice none 0 0, .slice none 0 0] 39)).drew) (Blk.new u3 #[.slice none 0 0, .slice none 0 0, .slice none 0 0] 39) qa0) (below_next (below_next (below_new u3 (.cells #[.slice none 0 0, .slice none 0 0, .slice none 0 0] 39)) (below_drew _)) qa0)))
  case rest =>
    obtain ⟨bw, g0, k0, rfl, BX, W0, bg0, lb0, lg0, gt0, q⟩ := hcut
    generalize wc = u5 at *
    have zb := BX.lt; have zq0 : u3.heap.size ≤ u5.heap.size := q.size
    replace W0 := Lib.hid W0
    replace X := X.later q
    replace Y := Y.later q
    replace R := R.later q
    replace HB := Lib.hid (HB.out.trans (q.mono HB.out.size))
    clear q
    have wbw : w.heap.size ≤ bw := by have := zR2; omega
    obtain ⟨Xc, Xf⟩ := X.open
    obtain ⟨Yc, Yf⟩ := Y.open
    go_upto_region 4 with (fail)
    clear Xc Xf
    clear Yc Yf
    have zX : w.heap.size ≠ bw := by omega
    have zY : w.heap.size + 1 ≠ bw := by omega
    have b1w := HB.out
    go_region_held3 (fun w' => (∀ i, w'.cell? ⟨w.heap.size, i, none⟩ = (#[.int .i64 wd, .int .i64 hi, .bool true, .slice a xs.length ca, .slice b ys.length cb] : Array Value)[i]?) ∧ (∀ i, w'.cell? ⟨w.heap.size + 1, i, none⟩ = (#[.slice a0 n c0, .slice a1 n c1, .slice a2 n c2] : Array Value)[i]?) ∧ u5.grownBy w' (some bw)) (first | with_reducible exact keepP2_start X Y | with_reducible exact keepP2_later X Y zX zY (by assumption) (by assumption) | exact keepP2_set X Y zX zY (by assumption) _ _)
      (first
        | (go_at_call 79; (with_reducible refine (CC1.out _ (below_heldP2 b1w wbw (by assumption))).mono ?_); intro r u6 hgot; obtain ⟨g1, k1, rfl, W1, gl1, gt1, qa1⟩ := gotL_some hgot (PL.out _ _); clear hgot; obtain ⟨bc, bf⟩ := (BX.later (below_next (below_drew u5) qa1)).open))
    clear bc bf
    have gl12 : u5.heap.size ≤ g1 := gl1
    have q := (below_next (below_drew u5) qa1)
    have zq1 : u5.heap.size ≤ u6.heap.size := q.size
    replace W1 : OwnV u6 u5.heap.size (some ⟨g1, 0, none⟩) (fvals (placed (shfF wd hi dx dy) n x)) := W1
    replace W1 := Lib.hid W1
    replace X := X.later q
    replace Y := Y.later q
    replace R := R.later q
    replace BX := BX.later q
    replace W0 := Lib.hid (W0.out.later q)
    replace HB := Lib.hid (HB.out.trans (q.mono HB.out.size))
    clear q
    clear qa1 gl1
    have ot := out_set u6 bw 1 (.slice (some ⟨g1, 0, none⟩) n k1)
    replace X := X.out ot (by omega)
    replace Y := Y.out ot (by omega)
    replace R := R.out ot (by omega)
    replace W0 := Lib.hid (W0.out.outside ot (lo := _) (hi := _) (fun x hx => by cases hx; exact ⟨Nat.le_refl g0, Nat.lt_succ_self g0⟩) (by omega))
    replace W1 := Lib.hid (W1.out.outside ot (lo := _) (hi := _) (fun x hx => by cases hx; exact ⟨Nat.le_refl g1, Nat.lt_succ_self g1⟩) (by omega))
    replace BX : Blk (u6.setCell ⟨bw, 1, none⟩ (.slice (some ⟨g1, 0, none⟩) n k1)) bw #[.slice (some ⟨g0, 0, none⟩) n k0, .slice (some ⟨g1, 0, none⟩) n k1, .slice none 0 0] 39 := BX.set 1 _
    replace HB := Lib.hid (HB.out.setCell (p := ⟨bw, 1, none⟩) (by dsimp only; omega) (.slice (some ⟨g1, 0, none⟩) n k1))
    clear ot
    have ts7 : u6.heap.size ≤ (u6.setCell ⟨bw, 1, none⟩ (.slice (some ⟨g1, 0, none⟩) n k1)).heap.size := by simp
    generalize u6.setCell ⟨bw, 1, none⟩ (.slice (some ⟨g1, 0, none⟩) n k1) = u7 at *
    obtain ⟨Xc, Xf⟩ := X.open
    obtain ⟨Yc, Yf⟩ := Y.open
    go_upto_region 5 with (fail)
    clear Xc Xf
    clear Yc Yf
    skip
    skip
    have b2w := HB.out
    go_region_held3 (fun w' => (∀ i, w'.cell? ⟨w.heap.size, i, none⟩ = (#[.int .i64 wd, .int .i64 hi, .bool true, .slice a xs.length ca, .slice b ys.length cb] : Array Value)[i]?) ∧ (∀ i, w'.cell? ⟨w.heap.size + 1, i, none⟩ = (#[.slice a0 n c0, .slice a1 n c1, .slice a2 n c2] : Array Value)[i]?) ∧ u7.grownBy w' (some bw)) (first | with_reducible exact keepP2_start X Y | with_reducible exact keepP2_later X Y zX zY (by assumption) (by assumption) | exact keepP2_set X Y zX zY (by assumption) _ _)
      (first
        | (go_at_call 79; (with_reducible refine (CC2.out _ (below_heldP2 b2w wbw (by assumption))).mono ?_); intro r u8 hgot; obtain ⟨g2, k2, rfl, W2, gl2, gt2, qa2⟩ := gotL_some hgot (PL.out _ _); clear hgot; obtain ⟨bc, bf⟩ := (BX.later (below_next (below_drew u7) qa2)).open))
    clear bc bf
    have gl22 : u7.heap.size ≤ g2 := gl2
    have q := (below_next (below_drew u7) qa2)
    have zq2 : u7.heap.size ≤ u8.heap.size := q.size
    replace W2 : OwnV u8 u7.heap.size (some ⟨g2, 0, none⟩) (fvals (placed (shfF wd hi dx dy) n y)) := W2
    replace W2 := Lib.hid W2
    replace X := X.later q
    replace Y := Y.later q
    replace R := R.later q
    replace BX := BX.later q
    replace W0 := Lib.hid (W0.out.later q)
    replace W1 := Lib.hid (W1.out.later q)
    replace HB := Lib.hid (HB.out.trans (q.mono HB.out.size))
    clear q
    clear qa2 gl2
    have ot := out_set u8 bw 2 (.slice (some ⟨g2, 0, none⟩) n k2)
    replace X := X.out ot (by omega)
    replace Y := Y.out ot (by omega)
    replace R := R.out ot (by omega)
    replace W0 := Lib.hid (W0.out.outside ot (lo := _) (hi := _) (fun x hx => by cases hx; exact ⟨Nat.le_refl g0, Nat.lt_succ_self g0⟩) (by omega))
    replace W1 := Lib.hid (W1.out.outside ot (lo := _) (hi := _) (fun x hx => by cases hx; exact ⟨Nat.le_refl g1, Nat.lt_succ_self g1⟩) (by omega))
    replace W2 := Lib.hid (W2.out.outside ot (lo := _) (hi := _) (fun x hx => by cases hx; exact ⟨Nat.le_refl g2, Nat.lt_succ_self g2⟩) (by omega))
    replace BX : Blk (u8.setCell ⟨bw, 2, none⟩ (.slice (some ⟨g2, 0, none⟩) n k2)) bw #[.slice (some ⟨g0, 0, none⟩) n k0, .slice (some ⟨g1, 0, none⟩) n k1, .slice (some ⟨g2, 0, none⟩) n k2] 39 := BX.set 2 _
    replace HB := Lib.hid (HB.out.setCell (p := ⟨bw, 2, none⟩) (by dsimp only; omega) (.slice (some ⟨g2, 0, none⟩) n k2))
    clear ot
    have ts9 : u8.heap.size ≤ (u8.setCell ⟨bw, 2, none⟩ (.slice (some ⟨g2, 0, none⟩) n k2)).heap.size := by simp
    generalize u8.setCell ⟨bw, 2, none⟩ (.slice (some ⟨g2, 0, none⟩) n k2) = u9 at *
    obtain ⟨BXc, BXf⟩ := BX.open
    obtain ⟨Rc, Rf⟩ := R.open
    go_wp2
    have z9 := HB.out.size
    refine bodyPost_ret (v := .tuple #[.agg #[.slice (some ⟨g0, 0, none⟩) n k0, .slice (some ⟨g1, 0, none⟩) n k1, .slice (some ⟨g2, 0, none⟩) n k2], .bool true]) (by simp [results, Try.results45, go_sem, Rc]) rfl ⟨some ⟨g0, 0, none⟩, some ⟨g1, 0, none⟩, some ⟨g2, 0, none⟩, k0, k1, k2, placed (shfF wd hi dx dy) n e, placed (shfF wd hi dx dy) n x, placed (shfF wd hi dx dy) n y, by simp only [turned_length, placed_length], (GotField.own ⟨((((W0.out.lower (show w.heap.size ≤ _ by omega)).set (p := ⟨w.heap.size + 1 + 1, 0, none⟩) (ne_block (h := w.heap.size + 1 + 1) (by omega)) _).set (p := ⟨w.heap.size + 1 + 1, 1, none⟩) (ne_block (h := w.heap.size + 1 + 1) (by omega)) _).set (p := ⟨w.heap.size + 1 + 1, 2, none⟩) (ne_block (h := w.heap.size + 1 + 1) (by omega)) _), ((((W1.out.lower (show w.heap.size ≤ _ by omega)).set (p := ⟨w.heap.size + 1 + 1, 0, none⟩) (ne_block (h := w.heap.size + 1 + 1) (by omega)) _).set (p := ⟨w.heap.size + 1 + 1, 1, none⟩) (ne_block (h := w.heap.size + 1 + 1) (by omega)) _).set (p := ⟨w.heap.size + 1 + 1, 2, none⟩) (ne_block (h := w.heap.size + 1 + 1) (by omega)) _), ((((W2.out.lower (show w.heap.size ≤ _ by omega)).set (p := ⟨w.heap.size + 1 + 1, 0, none⟩) (ne_block (h := w.heap.size + 1 + 1) (by omega)) _).set (p := ⟨w.heap.size + 1 + 1, 1, none⟩) (ne_block (h := w.heap.size + 1 + 1) (by omega)) _).set (p := ⟨w.heap.size + 1 + 1, 2, none⟩) (ne_block (h := w.heap.size + 1 + 1) (by omega)) _), apart_ne (by omega), apart_ne (by omega), apart_ne (by omega), is_placed q0 n256, is_placed q1 n256, is_placed q2 n256, (((HB.out.setCell (p := ⟨w.heap.size + 1 + 1, 0, none⟩) (by first | omega | (simp <;> omega)) _).setCell (p := ⟨w.heap.size + 1 + 1, 1, none⟩) (by first | omega | (simp <;> omega)) _).setCell (p := ⟨w.heap.size + 1 + 1, 2, none⟩) (by first | omega | (simp <;> omega)) _)⟩)⟩

end Go.Proofs.Ytpnfgchifclhlaa
