/- Mirrored, exchanged and shifted fields: the program's and the model's. Conditions: none beyond those of each theorem. -/
import Derived.Test.YtkcododhfliobabSwpF
import Derived.Test.YtkcododhfliobabBu5
namespace Go.Proofs.Ytkcododhfliobab
open Go Ieee Go.RowKit
set_option linter.unusedVariables false

def RelMV (u : World) (m1 m2 : Array Value) (s t : Value) (wx : World) : Prop :=
  ∃ b1 b2, s = .pointer (some ⟨b1, 0, none⟩) ∧ t = .pointer (some ⟨b2, 0, none⟩) ∧ Blk wx b1 m1 80 ∧ Blk wx b2 m2 80 ∧ u.heap.size ≤ b1 ∧ u.heap.size ≤ b2 ∧ Below u.heap.size u wx

theorem Blk.drew {w : World} {g : Nat} {cs : Array Value} {e : TypeId} (h : Blk w g cs e) : Blk w.drew g cs e := h

theorem sz0 {X Y : World} (b : Below X.heap.size X Y) : X.heap.size ≤ Y.heap.size := b.size
theorem sz0d {X Y : World} (b : Below X.drew.heap.size X.drew Y) : X.heap.size ≤ Y.heap.size := b.size
theorem sz1 {X Y : World} {o : Obj} (b : Below (X.alloc o).heap.size (X.alloc o) Y) : X.heap.size + 1 ≤ Y.heap.size := by have := b.size; simp at this; omega
theorem sz1d {X Y : World} {o : Obj} (b : Below (X.alloc o).drew.heap.size (X.alloc o).drew Y) : X.heap.size + 1 ≤ Y.heap.size := by have h : (X.alloc o).heap.size ≤ Y.heap.size := b.size; simp at h; omega
theorem sz2 {X Y : World} {o p : Obj} (b : Below ((X.alloc o).alloc p).heap.size ((X.alloc o).alloc p) Y) : X.heap.size + 1 + 1 ≤ Y.heap.size := by have := b.size; simp at this; omega
theorem sz2d {X Y : World} {o p : Obj} (b : Below ((X.alloc o).alloc p).drew.heap.size ((X.alloc o).alloc p).drew Y) : X.heap.size + 1 + 1 ≤ Y.heap.size := by have h : ((X.alloc o).alloc p).heap.size ≤ Y.heap.size := b.size; simp at h; omega

theorem row_heldR3 {w u w' : World} {R : Nat} {a : Option Addr} {vs : List Value} {A B C : Prop} (h : RowV w a vs) (hu : Below w.heap.size w u) (hR : w.heap.size ≤ R) (k : A ∧ B ∧ C ∧ u.grownBy w' (some R)) : RowV w' a vs := h.later (hu.grown k.2.2.2 hu.size (fun j hj => by cases hj; exact hR))

theorem bs_alloc {u w : World} {o : Obj} (h : Below u.heap.size u w) : Below u.heap.size u (w.alloc o) := below_next h (below_new _ _)

theorem bs_drew {u w : World} (h : Below u.heap.size u w) : Below u.heap.size u w.drew := below_next h (below_drew _)

theorem blk_new_at {w : World} {g : Nat} {cs : Array Value} {e : TypeId} (h : w.heap.size = g) : Blk (w.alloc (.cells cs e)) g cs e := by subst h; exact Blk.new w cs e

theorem blk_store7 {w : World} {g : Nat} {a0 a1 a2 a3 a4 a5 a6 x0 x1 x2 x3 x4 x5 x6 : Value} {e : TypeId} (h : Blk w g #[a0, a1, a2, a3, a4, a5, a6] e) : Blk (((((((w.setCell ⟨g, 0, none⟩ x0).setCell ⟨g, 1, none⟩ x1).setCell ⟨g, 2, none⟩ x2).setCell ⟨g, 3, none⟩ x3).setCell ⟨g, 4, none⟩ x4).setCell ⟨g, 5, none⟩ x5).setCell ⟨g, 6, none⟩ x6) g #[x0, x1, x2, x3, x4, x5, x6] e := by
  have h0 : Blk _ g #[x0, a1, a2, a3, a4, a5, a6] e := h.set 0 x0
  have h1 : Blk _ g #[x0, x1, a2, a3, a4, a5, a6] e := h0.set 1 x1
  have h2 : Blk _ g #[x0, x1, x2, a3, a4, a5, a6] e := h1.set 2 x2
  have h3 : Blk _ g #[x0, x1, x2, x3, a4, a5, a6] e := h2.set 3 x3
  have h4 : Blk _ g #[x0, x1, x2, x3, x4, a5, a6] e := h3.set 4 x4
  have h5 : Blk _ g #[x0, x1, x2, x3, x4, x5, a6] e := h4.set 5 x5
  exact h5.set 6 x6

theorem blk_other7 {w : World} {g b : Nat} {cs : Array Value} {x0 x1 x2 x3 x4 x5 x6 : Value} {e : TypeId} (h : Blk w g cs e) (ne : g ≠ b) : Blk (((((((w.setCell ⟨b, 0, none⟩ x0).setCell ⟨b, 1, none⟩ x1).setCell ⟨b, 2, none⟩ x2).setCell ⟨b, 3, none⟩ x3).setCell ⟨b, 4, none⟩ x4).setCell ⟨b, 5, none⟩ x5).setCell ⟨b, 6, none⟩ x6) g cs e :=
  ((((((h.setOther ne _).setOther ne _).setOther ne _).setOther ne _).setOther ne _).setOther ne _).setOther ne _

theorem below_set7 {u w : World} {b : Nat} {x0 x1 x2 x3 x4 x5 x6 : Value} (h : Below u.heap.size u w) (le : u.heap.size ≤ b) : Below u.heap.size u (((((((w.setCell ⟨b, 0, none⟩ x0).setCell ⟨b, 1, none⟩ x1).setCell ⟨b, 2, none⟩ x2).setCell ⟨b, 3, none⟩ x3).setCell ⟨b, 4, none⟩ x4).setCell ⟨b, 5, none⟩ x5).setCell ⟨b, 6, none⟩ x6) :=
  ((((((h.setCell le _).setCell le _).setCell le _).setCell le _).setCell le _).setCell le _).setCell le _

set_option maxHeartbeats 8000000 in
set_option maxRecDepth 100000 in
theorem implMirrorFieldL (wd hi : Int) (wb : Bool) (a b : Option Addr) (ca cb : Nat) (xs ys : List Nat) (a0 a1 a2 : Option Addr) (c0 c1 c2 : Nat) (e x y : List Nat) (w : World) (ha : RowV w a (fvals xs)) (hb : RowV w b (fvals ys)) (qa : ∀ z ∈ xs, z < 2 ^ 32) (qb : ∀ z ∈ ys, z < 2 ^ 32) (hx : xs.length ≤ maxLen) (hy : ys.length ≤ maxLen) (h0 : RowV w a0 (fvals e)) (h1 : RowV w a1 (fvals x)) (h2 : RowV w a2 (fvals y)) (q0 : ∀ z ∈ e, z < 2 ^ 32) (q1 : ∀ z ∈ x, z < 2 ^ 32) (q2 : ∀ z ∈ y, z < 2 ^ 32) (m0 : e.length ≤ maxLen) (m1 : x.length ≤ maxLen) (m2 : y.length ≤ maxLen) :
    Calls Try.prog 20 #[.agg #[.int .i64 wd, .int .i64 hi, .bool wb, .slice a xs.length ca, .slice b ys.length cb], .agg #[.slice a0 e.length c0, .slice a1 x.length c1, .slice a2 y.length c2]] w (GaveF w (fieldB wd hi wb xs ys e x y) (placed (mirF wd) (wd * hi).toNat e) (placed (mirF wd) (wd * hi).toNat x) (turned (placed (gapF wd) (wd * hi).toNat y))) := by
  have hfb := valB_split wd hi wb xs ys e x y; have HFB := Lib.hid hfb; clear hfb
  rcases hs : validB wd hi xs ys with _ | _
  · skip
    have hfbv : fieldB wd hi wb xs ys e x y = false := by rw [HFB.out, hs]; rfl
    have HBV := Lib.hid hfbv
    have H_fb := Lib.hid hfbv; clear hfbv
    have H_hs := Lib.hid hs; clear hs
    rw [HBV.out]
    have X := Blk.new w #[.int .i64 wd, .int .i64 hi, .bool wb, .slice a xs.length ca, .slice b ys.length cb] 32
    have Y := Blk.new1 w (.cells #[.int .i64 wd, .int .i64 hi, .bool wb, .slice a xs.length ca, .slice b ys.length cb] 32) #[.slice a0 e.length c0, .slice a1 x.length c1, .slice a2 y.length c2] 29
    replace X := X.alloc (.cells #[.slice a0 e.length c0, .slice a1 x.length c1, .slice a2 y.length c2] 29)
    have R := Blk.new2 w (.cells #[.int .i64 wd, .int .i64 hi, .bool wb, .slice a xs.length ca, .slice b ys.length cb] 32) (.cells #[.slice a0 e.length c0, .slice a1 x.length c1, .slice a2 y.length c2] 29) #[.slice none 0 0, .slice none 0 0, .slice none 0 0] 29
    replace X := X.alloc (.cells #[.slice none 0 0, .slice none 0 0, .slice none 0 0] 29)
    replace Y := Y.alloc (.cells #[.slice none 0 0, .slice none 0 0, .slice none 0 0] 29)
    have HB : Hid (Below w.heap.size w (((w.alloc (.cells #[.int .i64 wd, .int .i64 hi, .bool wb, .slice a xs.length ca, .slice b ys.length cb] 32)).alloc (.cells #[.slice a0 e.length c0, .slice a1 x.length c1, .slice a2 y.length c2] 29)).alloc (.cells #[.slice none 0 0, .slice none 0 0, .slice none 0 0] 29))) := Lib.hid ((((Below.refl w.heap.size w).alloc (by simp <;> omega) _).alloc (by simp <;> omega) _).alloc (by simp <;> omega) _)
    go_enter Try.func20, Try.ntmps20
    go_wp2_with fail
    generalize (((w.alloc (.cells #[.int .i64 wd, .int .i64 hi, .bool wb, .slice a xs.length ca, .slice b ys.length cb] 32)).alloc (.cells #[.slice a0 e.length c0, .slice a1 x.length c1, .slice a2 y.length c2] 29)).alloc (.cells #[.slice none 0 0, .slice none 0 0, .slice none 0 0] 29)) = u1 at *
    refine (implIsField _ _ _ _ _ _ _ _ _ _ _ _ _ _ _ _ _ _ _ (ha.later HB.out) (hb.later HB.out) hx hy (h0.later HB.out) (h1.later HB.out) (h2.later HB.out) m0 m1 m2).mono ?_
    rintro r u2 ⟨rfl, q⟩
    replace X := X.later q
    replace Y := Y.later q
    replace R := R.later q
    replace HB := Lib.hid (HB.out.trans (q.mono HB.out.size))
    clear q
    rw [H_fb.out]
    obtain ⟨Xc, Xf⟩ := X.open
    obtain ⟨Rc, Rf⟩ := R.open
    go_wp2
    refine bodyPost_ret (v := .tuple #[.agg #[.slice none 0 0, .slice none 0 0, .slice none 0 0], .bool false]) (by simp [results, Try.results20, go_sem, Rc]) rfl ⟨none, none, none, 0, 0, 0, [], [], [], rfl, GotField.none (((HB.out.setCell (p := ⟨w.heap.size + 1 + 1, 0, none⟩) (by first | omega | (simp <;> omega)) _).setCell (p := ⟨w.heap.size + 1 + 1, 1, none⟩) (by first | omega | (simp <;> omega)) _).setCell (p := ⟨w.heap.size + 1 + 1, 2, none⟩) (by first | omega | (simp <;> omega)) _)⟩
  rcases hf : fitsB wd hi wb e x y with _ | _
  · skip
    have hfbv : fieldB wd hi wb xs ys e x y = false := by rw [HFB.out, hs, hf]; rfl
    have HBV := Lib.hid hfbv
    have H_fb := Lib.hid hfbv; clear hfbv
    have H_hs := Lib.hid hs; clear hs
    have H_hf := Lib.hid hf; clear hf
    rw [HBV.out]
    have X := Blk.new w #[.int .i64 wd, .int .i64 hi, .bool wb, .slice a xs.length ca, .slice b ys.length cb] 32
    have Y := Blk.new1 w (.cells #[.int .i64 wd, .int .i64 hi, .bool wb, .slice a xs.length ca, .slice b ys.length cb] 32) #[.slice a0 e.length c0, .slice a1 x.length c1, .slice a2 y.length c2] 29
    replace X := X.alloc (.cells #[.slice a0 e.length c0, .slice a1 x.length c1, .slice a2 y.length c2] 29)
    have R := Blk.new2 w (.cells #[.int .i64 wd, .int .i64 hi, .bool wb, .slice a xs.length ca, .slice b ys.length cb] 32) (.cells #[.slice a0 e.length c0, .slice a1 x.length c1, .slice a2 y.length c2] 29) #[.slice none 0 0, .slice none 0 0, .slice none 0 0] 29
    replace X := X.alloc (.cells #[.slice none 0 0, .slice none 0 0, .slice none 0 0] 29)
    replace Y := Y.alloc (.cells #[.slice none 0 0, .slice none 0 0, .slice none 0 0] 29)
    have HB : Hid (Below w.heap.size w (((w.alloc (.cells #[.int .i64 wd, .int .i64 hi, .bool wb, .slice a xs.length ca, .slice b ys.length cb] 32)).alloc (.cells #[.slice a0 e.length c0, .slice a1 x.length c1, .slice a2 y.length c2] 29)).alloc (.cells #[.slice none 0 0, .slice none 0 0, .slice none 0 0] 29))) := Lib.hid ((((Below.refl w.heap.size w).alloc (by simp <;> omega) _).alloc (by simp <;> omega) _).alloc (by simp <;> omega) _)
    go_enter Try.func20, Try.ntmps20
    go_wp2_with fail
    generalize (((w.alloc (.cells #[.int .i64 wd, .int .i64 hi, .bool wb, .slice a xs.length ca, .slice b ys.length cb] 32)).alloc (.cells #[.slice a0 e.length c0, .slice a1 x.length c1, .slice a2 y.length c2] 29)).alloc (.cells #[.slice none 0 0, .slice none 0 0, .slice none 0 0] 29)) = u1 at *
    refine (implIsField _ _ _ _ _ _ _ _ _ _ _ _ _ _ _ _ _ _ _ (ha.later HB.out) (hb.later HB.out) hx hy (h0.later HB.out) (h1.later HB.out) (h2.later HB.out) m0 m1 m2).mono ?_
    rintro r u2 ⟨rfl, q⟩
    replace X := X.later q
    replace Y := Y.later q
    replace R := R.later q
    replace HB := Lib.hid (HB.out.trans (q.mono HB.out.size))
    clear q
    rw [H_fb.out]
    obtain ⟨Xc, Xf⟩ := X.open
    obtain ⟨Rc, Rf⟩ := R.open
    go_wp2
    refine bodyPost_ret (v := .tuple #[.agg #[.slice none 0 0, .slice none 0 0, .slice none 0 0], .bool false]) (by simp [results, Try.results20, go_sem, Rc]) rfl ⟨none, none, none, 0, 0, 0, [], [], [], rfl, GotField.none (((HB.out.setCell (p := ⟨w.heap.size + 1 + 1, 0, none⟩) (by first | omega | (simp <;> omega)) _).setCell (p := ⟨w.heap.size + 1 + 1, 1, none⟩) (by first | omega | (simp <;> omega)) _).setCell (p := ⟨w.heap.size + 1 + 1, 2, none⟩) (by first | omega | (simp <;> omega)) _)⟩
  have hfbv : fieldB wd hi wb xs ys e x y = true := by rw [HFB.out, hs, hf]; rfl
  obtain ⟨s1, s2, s3, s4, hm2, _, _⟩ := valid_parts hs
  obtain ⟨_, _, l0, l1, l2⟩ := field_parts hfbv
  obtain ⟨n, hn⟩ := Int.eq_ofNat_of_zero_le (show 0 ≤ wd * hi by omega)
  have E0 : e.length = n := by omega
  have E1 : x.length = n := by omega
  have E2 : y.length = n := by omega
  have n256 : n ≤ 256 := by omega
  have n0 : 0 < n := by
    have := Int.mul_le_mul s1 s3 (by omega) (by omega); omega
  have HBV := Lib.hid hfbv
  rw [hfbv]
  have H_fb := Lib.hid hfbv; clear hfbv
  have H_hs := Lib.hid hs; clear hs
  have H_hf := Lib.hid hf; clear hf
  clear hm2 l0 l1 l2
  have HN := Lib.hid hn; have HE0 := Lib.hid E0; have HE1 := Lib.hid E1; have HE2 := Lib.hid E2
  rw [show (wd * hi).toNat = n by rw [hn]; rfl]
  have CV : ∀ u, Below w.heap.size w u → Calls Try.prog 61 #[.agg #[.int .i64 wd, .int .i64 hi, .bool wb, .slice a xs.length ca, .slice b ys.length cb], .agg #[.slice a0 n c0, .slice a1 n c1, .slice a2 n c2]] u fun e w' => e = .returned (.bool true) ∧ Below u.heap.size u w' := fun u hu => by
    have := implIsField wd hi wb a b ca cb xs ys a0 a1 a2 c0 c1 c2 e x y u (ha.later hu) (hb.later hu) hx hy (h0.later hu) (h1.later hu) (h2.later hu) m0 m1 m2
    rw [E0, E1, E2, H_fb.out] at this; exact this
  have HCV := Lib.hid CV; clear CV
  rw [E0, E1, E2]; clear E0 E1 E2 hn
  have X := Blk.new w #[.int .i64 wd, .int .i64 hi, .bool wb, .slice a xs.length ca, .slice b ys.length cb] 32
  have Y := Blk.new1 w (.cells #[.int .i64 wd, .int .i64 hi, .bool wb, .slice a xs.length ca, .slice b ys.length cb] 32) #[.slice a0 n c0, .slice a1 n c1, .slice a2 n c2] 29
  replace X := X.alloc (.cells #[.slice a0 n c0, .slice a1 n c1, .slice a2 n c2] 29)
  have R := Blk.new2 w (.cells #[.int .i64 wd, .int .i64 hi, .bool wb, .slice a xs.length ca, .slice b ys.length cb] 32) (.cells #[.slice a0 n c0, .slice a1 n c1, .slice a2 n c2] 29) #[.slice none 0 0, .slice none 0 0, .slice none 0 0] 29
  replace X := X.alloc (.cells #[.slice none 0 0, .slice none 0 0, .slice none 0 0] 29)
  replace Y := Y.alloc (.cells #[.slice none 0 0, .slice none 0 0, .slice none 0 0] 29)
  have HB : Hid (Below w.heap.size w (((w.alloc (.cells #[.int .i64 wd, .int .i64 hi, .bool wb, .slice a xs.length ca, .slice b ys.length cb] 32)).alloc (.cells #[.slice a0 n c0, .slice a1 n c1, .slice a2 n c2] 29)).alloc (.cells #[.slice none 0 0, .slice none 0 0, .slice none 0 0] 29))) := Lib.hid ((((Below.refl w.heap.size w).alloc (by simp <;> omega) _).alloc (by simp <;> omega) _).alloc (by simp <;> omega) _)
  go_enter Try.func20, Try.ntmps20
  go_wp2_with fail
  generalize (((w.alloc (.cells #[.int .i64 wd, .int .i64 hi, .bool wb, .slice a xs.length ca, .slice b ys.length cb] 32)).alloc (.cells #[.slice a0 n c0, .slice a1 n c1, .slice a2 n c2] 29)).alloc (.cells #[.slice none 0 0, .slice none 0 0, .slice none 0 0] 29)) = u1 at *
  have zr := R.lt
  refine (HCV.out _ HB.out).mono ?_
  rintro r u2 ⟨rfl, q⟩
  replace X := X.later q
  replace Y := Y.later q
  replace R := R.later q
  replace HB := Lib.hid (HB.out.trans (q.mono HB.out.size))
  clear q
  have zR2 := R.lt
  obtain ⟨Xc, Xf⟩ := X.open
  clear Xc Xf
  obtain ⟨Xc, Xf⟩ := X.open
  go_upto_region 3 with (fail)
  clear Xc Xf
  go_cut [6, 7] (fun sa sb wx => RelMV u2 #[.int .i64 wd, .int .i64 hi, .bool wb, .int .i64 wd, .int .i64 hi, .bool wb, .func (.func 111) #[.agg #[.int .i64 wd, .int .i64 hi, .bool wb]] #[]] #[.int .i64 wd, .int .i64 hi, .bool wb, .int .i64 wd, .int .i64 hi, .bool wb, .func (.func 112) #[.agg #[.int .i64 wd, .int .i64 hi, .bool wb]] #[]] sa sb wx)
  case first =>
    refine wp_region_held_drew (S := (fun w' : World => (∀ i, w'.cell? ⟨w.heap.size, i, none⟩ = (#[.int .i64 wd, .int .i64 hi, .bool wb, .slice a xs.length ca, .slice b ys.length cb] : Array Value)[i]?) ∧ Below u2.heap.size u2 w')) (by kernel_rfl) (keep1_start X) (fun hH => ?_)
    refine wpAnyH_take (i := 0) (v := ?_) rfl (by kernel_rfl) (by kernel_rfl) (by kernel_rfl) (fun _ _ _ h => h) (Or.inl ⟨by rfl, ?_⟩) hH ?_
    rotate_left
    · intro w9 hSw; (try dsimp only at hSw); go_simp; try with_reducible rfl
    try simp only [Act.put, List.getElem_toArray, List.getElem_cons_succ, List.getElem_cons_zero, List.setIfInBounds_toArray, List.set_cons_zero, List.set_cons_succ]
    refine wpAnyH_take (i := 3) (v := ?_) rfl (by kernel_rfl) (by kernel_rfl) (by kernel_rfl) (fun _ _ _ h => h) (Or.inl ⟨by rfl, ?_⟩) hH ?_
    rotate_left
    · intro w9 hSw; (try dsimp only at hSw); go_simp; try with_reducible rfl
    try simp only [Act.put, List.getElem_toArray, List.getElem_cons_succ, List.getElem_cons_zero, List.setIfInBounds_toArray, List.set_cons_zero, List.set_cons_succ]
    have hdz : u2.drew = u2.drew := rfl
    clear hdz
    generalize u2.drew = W0 at *
    refine wpAnyH_ready (rs := [1, 6, 7]) (by kernel_rfl) (by simp) ?_
    refine AllReadyH.cons (o := _) rfl (fun K hK => ?_) (AllReadyH.cons (o := _) rfl (fun K hK => ?_) (AllReadyH.cons (o := _) rfl (fun K hK => ?_) (AllReadyH.nil)))
    · skip
      go_simp
      (with_reducible refine (implShapeOf _ _ _ _ _ _ _ _ _ _).mono ?_)
      rintro r W1 ⟨rfl, qa⟩
      refine hK.out _ _ (keep1_later X hH qa) (fun hH2 => ?_)
      clear hK K hH qa
      have hH := hH2; clear hH2
      try simp only [Act.put, List.getElem_toArray, List.getElem_cons_succ, List.getElem_cons_zero, List.setIfInBounds_toArray, List.set_cons_zero, List.set_cons_succ]
      refine wpAnyH_ready (rs := [2, 6, 7]) (by kernel_rfl) (by simp) ?_
      refine AllReadyH.cons (o := _) rfl (fun K hK => ?_) (AllReadyH.cons (o := _) rfl (fun K hK => ?_) (AllReadyH.cons (o := _) rfl (fun K hK => ?_) (AllReadyH.nil)))
      · skip
        go_simp
        (with_reducible refine (impl_mirrorCells _ _ _ _).mono ?_)
        rintro r W2 ⟨rfl, qa⟩
        refine hK.out _ _ (keep1_later X hH qa) (fun hH2 => ?_)
        clear hK K hH qa
        have hH := hH2; clear hH2
        try simp only [Act.put, List.getElem_toArray, List.getElem_cons_succ, List.getElem_cons_zero, List.setIfInBounds_toArray, List.set_cons_zero, List.set_cons_succ]
        refine wpAnyH_ready (rs := [4, 6, 7]) (by kernel_rfl) (by simp) ?_
        refine AllReadyH.cons (o := _) rfl (fun K hK => ?_) (AllReadyH.cons (o := _) rfl (fun K hK => ?_) (AllReadyH.cons (o := _) rfl (fun K hK => ?_) (AllReadyH.nil)))
        · skip
          go_simp
          (with_reducible refine (implShapeOf _ _ _ _ _ _ _ _ _ _).mono ?_)
          rintro r W3 ⟨rfl, qa⟩
          refine hK.out _ _ (keep1_later X hH qa) (fun hH2 => ?_)
          clear hK K hH qa
          have hH := hH2; clear hH2
          try simp only [Act.put, List.getElem_toArray, List.getElem_cons_succ, List.getElem_cons_zero, List.setIfInBounds_toArray, List.set_cons_zero, List.set_cons_succ]
          refine wpAnyH_ready (rs := [5, 6, 7]) (by kernel_rfl) (by simp) ?_
          refine AllReadyH.cons (o := _) rfl (fun K hK => ?_) (AllReadyH.cons (o := _) rfl (fun K hK => ?_) (AllReadyH.cons (o := _) rfl (fun K hK => ?_) (AllReadyH.nil)))
          · skip
            go_simp
            (with_reducible refine (impl_mirrorGaps _ _ _ _).mono ?_)
            rintro r W4 ⟨rfl, qa⟩
            refine hK.out _ _ (keep1_later X hH qa) (fun hH2 => ?_)
            clear hK K hH qa
            have hH := hH2; clear hH2
            try simp only [Act.put, List.getElem_toArray, List.getElem_cons_succ, List.getElem_cons_zero, List.setIfInBounds_toArray, List.set_cons_zero, List.set_cons_succ]
            refine wpAnyH_ready (rs := [6, 7]) (by kernel_rfl) (by simp) ?_
            refine AllReadyH.cons (o := _) rfl (fun K hK => ?_) (AllReadyH.cons (o := _) rfl (fun K hK => ?_) (AllReadyH.nil))
            · skip
              go_simp
              refine hK.out _ _ (keep1_now X (below_next hH.2 (below_new _ (.cells #[.int .i64 0, .int .i64 0, .bool false, .int .i64 0, .int .i64 0, .bool false, .nilFunc] 80)))) (fun hH2 => ?_)
              have le6 : u2.heap.size ≤ W4.heap.size := hH.2.size
              have B6 := Blk.new W4 #[.int .i64 0, .int .i64 0, .bool false, .int .i64 0, .int .i64 0, .bool false, .nilFunc] 80
              clear hK K hH
              have hH := hH2; clear hH2
              generalize W4.alloc (.cells #[.int .i64 0, .int .i64 0, .bool false, .int .i64 0, .int .i64 0, .bool false, .nilFunc] 80) = W5 at *
              try simp only [Act.put, List.getElem_toArray, List.getElem_cons_succ, List.getElem_cons_zero, List.setIfInBounds_toArray, List.set_cons_zero, List.set_cons_succ]
              refine wpAnyH_ready (rs := [7]) (by kernel_rfl) (by simp) ?_
              refine AllReadyH.cons (o := _) rfl (fun K hK => ?_) (AllReadyH.nil)
              · skip
                go_simp
                refine hK.out _ _ (keep1_now X (below_next hH.2 (below_new _ (.cells #[.int .i64 0, .int .i64 0, .bool false, .int .i64 0, .int .i64 0, .bool false, .nilFunc] 80)))) (fun hH2 => ?_)
                have le7 : u2.heap.size ≤ W5.heap.size := hH.2.size
                have ne67 : W4.heap.size ≠ W5.heap.size := Nat.ne_of_lt B6.lt
                replace B6 := B6.alloc (.cells #[.int .i64 0, .int .i64 0, .bool false, .int .i64 0, .int .i64 0, .bool false, .nilFunc] 80)
                have B7 := Blk.new W5 #[.int .i64 0, .int .i64 0, .bool false, .int .i64 0, .int .i64 0, .bool false, .nilFunc] 80
                clear hK K hH
                have hH := hH2; clear hH2
                generalize W5.alloc (.cells #[.int .i64 0, .int .i64 0, .bool false, .int .i64 0, .int .i64 0, .bool false, .nilFunc] 80) = W6 at *
                try simp only [Act.put, List.getElem_toArray, List.getElem_cons_succ, List.getElem_cons_zero, List.setIfInBounds_toArray, List.set_cons_zero, List.set_cons_succ]
                have n67 : W4.heap.size ≠ W5.heap.size := ne67
                refine wpAnyH_ready (rs := [8]) (by kernel_rfl) (by simp) ?_
                refine AllReadyH.cons (o := _) rfl (fun K hK => ?_) AllReadyH.nil
                obtain ⟨sc, sf⟩ := B6.open
                go_simp
                refine hK.out _ _ (keep1_now X (below_set7 hH.2 le6)) (fun hH2 => ?_)
                clear sc sf
                have C6 := (fun x0 x1 x2 x3 x4 x5 x6 => blk_store7 (x0 := x0) (x1 := x1) (x2 := x2) (x3 := x3) (x4 := x4) (x5 := x5) (x6 := x6) B6) (.int .i64 wd) (.int .i64 hi) (.bool wb) (.int .i64 wd) (.int .i64 hi) (.bool wb) (.func (.func 111) #[.agg #[.int .i64 wd, .int .i64 hi, .bool wb]] #[])
                replace B7 := (fun x0 x1 x2 x3 x4 x5 x6 => blk_other7 (x0 := x0) (x1 := x1) (x2 := x2) (x3 := x3) (x4 := x4) (x5 := x5) (x6 := x6) B7 (Ne.symm n67)) (.int .i64 wd) (.int .i64 hi) (.bool wb) (.int .i64 wd) (.int .i64 hi) (.bool wb) (.func (.func 111) #[.agg #[.int .i64 wd, .int .i64 hi, .bool wb]] #[])
                replace B6 := C6; clear C6
                clear hK K hH
                have hH := hH2; clear hH2
                generalize (((((((W6.setCell ⟨W4.heap.size, 0, none⟩ (.int .i64 wd)).setCell ⟨W4.heap.size, 1, none⟩ (.int .i64 hi)).setCell ⟨W4.heap.size, 2, none⟩ (.bool wb)).setCell ⟨W4.heap.size, 3, none⟩ (.int .i64 wd)).setCell ⟨W4.heap.size, 4, none⟩ (.int .i64 hi)).setCell ⟨W4.heap.size, 5, none⟩ (.bool wb)).setCell ⟨W4.heap.size, 6, none⟩ (.func (.func 111) #[.agg #[.int .i64 wd, .int .i64 hi, .bool wb]] #[])) = W8 at *
                try simp only [Act.put, List.getElem_toArray, List.getElem_cons_succ, List.getElem_cons_zero, List.setIfInBounds_toArray, List.set_cons_zero, List.set_cons_succ]
                refine wpAnyH_ready (rs := [9]) (by kernel_rfl) (by simp) ?_
                refine AllReadyH.cons (o := _) rfl (fun K hK => ?_) AllReadyH.nil
                obtain ⟨sc, sf⟩ := B7.open
                go_simp
                refine hK.out _ _ (keep1_now X (below_set7 hH.2 le7)) (fun hH2 => ?_)
                clear sc sf
                have C7 := (fun x0 x1 x2 x3 x4 x5 x6 => blk_store7 (x0 := x0) (x1 := x1) (x2 := x2) (x3 := x3) (x4 := x4) (x5 := x5) (x6 := x6) B7) (.int .i64 wd) (.int .i64 hi) (.bool wb) (.int .i64 wd) (.int .i64 hi) (.bool wb) (.func (.func 112) #[.agg #[.int .i64 wd, .int .i64 hi, .bool wb]] #[])
                replace B6 := (fun x0 x1 x2 x3 x4 x5 x6 => blk_other7 (x0 := x0) (x1 := x1) (x2 := x2) (x3 := x3) (x4 := x4) (x5 := x5) (x6 := x6) B6 n67) (.int .i64 wd) (.int .i64 hi) (.bool wb) (.int .i64 wd) (.int .i64 hi) (.bool wb) (.func (.func 112) #[.agg #[.int .i64 wd, .int .i64 hi, .bool wb]] #[])
                replace B7 := C7; clear C7
                clear hK K hH
                have hH := hH2; clear hH2
                generalize (((((((W8.setCell ⟨W5.heap.size, 0, none⟩ (.int .i64 wd)).setCell ⟨W5.heap.size, 1, none⟩ (.int .i64 hi)).setCell ⟨W5.heap.size, 2, none⟩ (.bool wb)).setCell ⟨W5.heap.size, 3, none⟩ (.int .i64 wd)).setCell ⟨W5.heap.size, 4, none⟩ (.int .i64 hi)).setCell ⟨W5.heap.size, 5, none⟩ (.bool wb)).setCell ⟨W5.heap.size, 6, none⟩ (.func (.func 112) #[.agg #[.int .i64 wd, .int .i64 hi, .bool wb]] #[])) = W9 at *
                try simp only [Act.put, List.getElem_toArray, List.getElem_cons_succ, List.getElem_cons_zero, List.setIfInBounds_toArray, List.set_cons_zero, List.set_cons_succ]
                refine wpAnyH_done (by kernel_rfl) ?_ _
                go_wp2
                go_meet
                case rel => exact ⟨_, _, rfl, rfl, B6, B7, le6, le7, hH.2⟩
            · skip
              go_simp
              refine hK.out _ _ (keep1_now X (below_next hH.2 (below_new _ (.cells #[.int .i64 0, .int .i64 0, .bool false, .int .i64 0, .int .i64 0, .bool false, .nilFunc] 80)))) (fun hH2 => ?_)
              have le7 : u2.heap.size ≤ W4.heap.size := hH.2.size
              have B7 := Blk.new W4 #[.int .i64 0, .int .i64 0, .bool false, .int .i64 0, .int .i64 0, .bool false, .nilFunc] 80
              clear hK K hH
              have hH := hH2; clear hH2
              generalize W4.alloc (.cells #[.int .i64 0, .int .i64 0, .bool false, .int .i64 0, .int .i64 0, .bool false, .nilFunc] 80) = W7 at *
              try simp only [Act.put, List.getElem_toArray, List.getElem_cons_succ, List.getElem_cons_zero, List.setIfInBounds_toArray, List.set_cons_zero, List.set_cons_succ]
              refine wpAnyH_ready (rs := [6]) (by kernel_rfl) (by simp) ?_
              refine AllReadyH.cons (o := _) rfl (fun K hK => ?_) (AllReadyH.nil)
              · skip
                go_simp
                refine hK.out _ _ (keep1_now X (below_next hH.2 (below_new _ (.cells #[.int .i64 0, .int .i64 0, .bool false, .int .i64 0, .int .i64 0, .bool false, .nilFunc] 80)))) (fun hH2 => ?_)
                have le6 : u2.heap.size ≤ W7.heap.size := hH.2.size
                have ne76 : W4.heap.size ≠ W7.heap.size := Nat.ne_of_lt B7.lt
                replace B7 := B7.alloc (.cells #[.int .i64 0, .int .i64 0, .bool false, .int .i64 0, .int .i64 0, .bool false, .nilFunc] 80)
                have B6 := Blk.new W7 #[.int .i64 0, .int .i64 0, .bool false, .int .i64 0, .int .i64 0, .bool false, .nilFunc] 80
                clear hK K hH
                have hH := hH2; clear hH2
                generalize W7.alloc (.cells #[.int .i64 0, .int .i64 0, .bool false, .int .i64 0, .int .i64 0, .bool false, .nilFunc] 80) = W8 at *
                try simp only [Act.put, List.getElem_toArray, List.getElem_cons_succ, List.getElem_cons_zero, List.setIfInBounds_toArray, List.set_cons_zero, List.set_cons_succ]
                have n67 : W7.heap.size ≠ W4.heap.size := Ne.symm ne76
                refine wpAnyH_ready (rs := [8]) (by kernel_rfl) (by simp) ?_
                refine AllReadyH.cons (o := _) rfl (fun K hK => ?_) AllReadyH.nil
                obtain ⟨sc, sf⟩ := B6.open
                go_simp
                refine hK.out _ _ (keep1_now X (below_set7 hH.2 le6)) (fun hH2 => ?_)
                clear sc sf
                have C6 := (fun x0 x1 x2 x3 x4 x5 x6 => blk_store7 (x0 := x0) (x1 := x1) (x2 := x2) (x3 := x3) (x4 := x4) (x5 := x5) (x6 := x6) B6) (.int .i64 wd) (.int .i64 hi) (.bool wb) (.int .i64 wd) (.int .i64 hi) (.bool wb) (.func (.func 111) #[.agg #[.int .i64 wd, .int .i64 hi, .bool wb]] #[])
                replace B7 := (fun x0 x1 x2 x3 x4 x5 x6 => blk_other7 (x0 := x0) (x1 := x1) (x2 := x2) (x3 := x3) (x4 := x4) (x5 := x5) (x6 := x6) B7 (Ne.symm n67)) (.int .i64 wd) (.int .i64 hi) (.bool wb) (.int .i64 wd) (.int .i64 hi) (.bool wb) (.func (.func 111) #[.agg #[.int .i64 wd, .int .i64 hi, .bool wb]] #[])
                replace B6 := C6; clear C6
                clear hK K hH
                have hH := hH2; clear hH2
                generalize (((((((W8.setCell ⟨W7.heap.size, 0, none⟩ (.int .i64 wd)).setCell ⟨W7.heap.size, 1, none⟩ (.int .i64 hi)).setCell ⟨W7.heap.size, 2, none⟩ (.bool wb)).setCell ⟨W7.heap.size, 3, none⟩ (.int .i64 wd)).setCell ⟨W7.heap.size, 4, none⟩ (.int .i64 hi)).setCell ⟨W7.heap.size, 5, none⟩ (.bool wb)).setCell ⟨W7.heap.size, 6, none⟩ (.func (.func 111) #[.agg #[.int .i64 wd, .int .i64 hi, .bool wb]] #[])) = W8 at *
                try simp only [Act.put, List.getElem_toArray, List.getElem_cons_succ, List.getElem_cons_zero, List.setIfInBounds_toArray, List.set_cons_zero, List.set_cons_succ]
                refine wpAnyH_ready (rs := [9]) (by kernel_rfl) (by simp) ?_
                refine AllReadyH.cons (o := _) rfl (fun K hK => ?_) AllReadyH.nil
                obtain ⟨sc, sf⟩ := B7.open
                go_simp
                refine hK.out _ _ (keep1_now X (below_set7 hH.2 le7)) (fun hH2 => ?_)
                clear sc sf
                have C7 := (fun x0 x1 x2 x3 x4 x5 x6 => blk_store7 (x0 := x0) (x1 := x1) (x2 := x2) (x3 := x3) (x4 := x4) (x5 := x5) (x6 := x6) B7) (.int .i64 wd) (.int .i64 hi) (.bool wb) (.int .i64 wd) (.int .i64 hi) (.bool wb) (.func (.func 112) #[.agg #[.int .i64 wd, .int .i64 hi, .bool wb]] #[])
                replace B6 := (fun x0 x1 x2 x3 x4 x5 x6 => blk_other7 (x0 := x0) (x1 := x1) (x2 := x2) (x3 := x3) (x4 := x4) (x5 := x5) (x6 := x6) B6 n67) (.int .i64 wd) (.int .i64 hi) (.bool wb) (.int .i64 wd) (.int .i64 hi) (.bool wb) (.func (.func 112) #[.agg #[.int .i64 wd, .int .i64 hi, .bool wb]] #[])
                replace B7 := C7; clear C7
                clear hK K hH
                have hH := hH2; clear hH2
                generalize (((((((W8.setCell ⟨W4.heap.size, 0, none⟩ (.int .i64 wd)).setCell ⟨W4.heap.size, 1, none⟩ (.int .i64 hi)).setCell ⟨W4.heap.size, 2, none⟩ (.bool wb)).setCell ⟨W4.heap.size, 3, none⟩ (.int .i64 wd)).setCell ⟨W4.heap.size, 4, none⟩ (.int .i64 hi)).setCell ⟨W4.heap.size, 5, none⟩ (.bool wb)).setCell ⟨W4.heap.size, 6, none⟩ (.func (.func 112) #[.agg #[.int .i64 wd, .int .i64 hi, .bool wb]] #[])) = W9 at *
                try simp only [Act.put, List.getElem_toArray, List.getElem_cons_succ, List.getElem_cons_zero, List.setIfInBounds_toArray, List.set_cons_zero, List.set_cons_succ]
                refine wpAnyH_done (by kernel_rfl) ?_ _
                go_wp2
                go_meet
                case rel => exact ⟨_, _, rfl, rfl, B6, B7, le6, le7, hH.2⟩
          · skip
            go_simp
            refine hK.out _ _ (keep1_now X (below_next hH.2 (below_new _ (.cells #[.int .i64 0, .int .i64 0, .bool false, .int .i64 0, .int .i64 0, .bool false, .nilFunc] 80)))) (fun hH2 => ?_)
            have le6 : u2.heap.size ≤ W3.heap.size := hH.2.size
            have B6 := Blk.new W3 #[.int .i64 0, .int .i64 0, .bool false, .int .i64 0, .int .i64 0, .bool false, .nilFunc] 80
            clear hK K hH
            have hH := hH2; clear hH2
            generalize W3.alloc (.cells #[.int .i64 0, .int .i64 0, .bool false, .int .i64 0, .int .i64 0, .bool false, .nilFunc] 80) = W9 at *
            try simp only [Act.put, List.getElem_toArray, List.getElem_cons_succ, List.getElem_cons_zero, List.setIfInBounds_toArray, List.set_cons_zero, List.set_cons_succ]
            refine wpAnyH_ready (rs := [5, 7]) (by kernel_rfl) (by simp) ?_
            refine AllReadyH.cons (o := _) rfl (fun K hK => ?_) (AllReadyH.cons (o := _) rfl (fun K hK => ?_) (AllReadyH.nil))
            · skip
              go_simp
              (with_reducible refine (impl_mirrorGaps _ _ _ _).mono ?_)
              rintro r W10 ⟨rfl, qa⟩
              refine hK.out _ _ (keep1_later X hH qa) (fun hH2 => ?_)
              replace B6 := B6.later qa
              clear hK K hH qa
              have hH := hH2; clear hH2
              try simp only [Act.put, List.getElem_toArray, List.getElem_cons_succ, List.getElem_cons_zero, List.setIfInBounds_toArray, List.set_cons_zero, List.set_cons_succ]
              refine wpAnyH_ready (rs := [7]) (by kernel_rfl) (by simp) ?_
              refine AllReadyH.cons (o := _) rfl (fun K hK => ?_) (AllReadyH.nil)
              · skip
                go_simp
                refine hK.out _ _ (keep1_now X (below_next hH.2 (below_new _ (.cells #[.int .i64 0, .int .i64 0, .bool false, .int .i64 0, .int .i64 0, .bool false, .nilFunc] 80)))) (fun hH2 => ?_)
                have le7 : u2.heap.size ≤ W10.heap.size := hH.2.size
                have ne67 : W3.heap.size ≠ W10.heap.size := Nat.ne_of_lt B6.lt
                replace B6 := B6.alloc (.cells #[.int .i64 0, .int .i64 0, .bool false, .int .i64 0, .int .i64 0, .bool false, .nilFunc] 80)
                have B7 := Blk.new W10 #[.int .i64 0, .int .i64 0, .bool false, .int .i64 0, .int .i64 0, .bool false, .nilFunc] 80
                clear hK K hH
                have hH := hH2; clear hH2
                generalize W10.alloc (.cells #[.int .i64 0, .int .i64 0, .bool false, .int .i64 0, .int .i64 0, .bool false, .nilFunc] 80) = W11 at *
                try simp only [Act.put, List.getElem_toArray, List.getElem_cons_succ, List.getElem_cons_zero, List.setIfInBounds_toArray, List.set_cons_zero, List.set_cons_succ]
                have n67 : W3.heap.size ≠ W10.heap.size := ne67
                refine wpAnyH_ready (rs := [8]) (by kernel_rfl) (by simp) ?_
                refine AllReadyH.cons (o := _) rfl (fun K hK => ?_) AllReadyH.nil
                obtain ⟨sc, sf⟩ := B6.open
                go_simp
                refine hK.out _ _ (keep1_now X (below_set7 hH.2 le6)) (fun hH2 => ?_)
                clear sc sf
                have C6 := (fun x0 x1 x2 x3 x4 x5 x6 => blk_store7 (x0 := x0) (x1 := x1) (x2 := x2) (x3 := x3) (x4 := x4) (x5 := x5) (x6 := x6) B6) (.int .i64 wd) (.int .i64 hi) (.bool wb) (.int .i64 wd) (.int .i64 hi) (.bool wb) (.func (.func 111) #[.agg #[.int .i64 wd, .int .i64 hi, .bool wb]] #[])
                replace B7 := (fun x0 x1 x2 x3 x4 x5 x6 => blk_other7 (x0 := x0) (x1 := x1) (x2 := x2) (x3 := x3) (x4 := x4) (x5 := x5) (x6 := x6) B7 (Ne.symm n67)) (.int .i64 wd) (.int .i64 hi) (.bool wb) (.int .i64 wd) (.int .i64 hi) (.bool wb) (.func (.func 111) #[.agg #[.int .i64 wd, .int .i64 hi, .bool wb]] #[])
                replace B6 := C6; clear C6
                clear hK K hH
                have hH := hH2; clear hH2
                generalize (((((((W11.setCell ⟨W3.heap.size, 0, none⟩ (.int .i64 wd)).setCell ⟨W3.heap.size, 1, none⟩ (.int .i64 hi)).setCell ⟨W3.heap.size, 2, none⟩ (.bool wb)).setCell ⟨W3.heap.size, 3, none⟩ (.int .i64 wd)).setCell ⟨W3.heap.size, 4, none⟩ (.int .i64 hi)).setCell ⟨W3.heap.size, 5, none⟩ (.bool wb)).setCell ⟨W3.heap.size, 6, none⟩ (.func (.func 111) #[.agg #[.int .i64 wd, .int .i64 hi, .bool wb]] #[])) = W8 at *
                try simp only [Act.put, List.getElem_toArray, List.getElem_cons_succ, List.getElem_cons_zero, List.setIfInBounds_toArray, List.set_cons_zero, List.set_cons_succ]
                refine wpAnyH_ready (rs := [9]) (by kernel_rfl) (by simp) ?_
                refine AllReadyH.cons (o := _) rfl (fun K hK => ?_) AllReadyH.nil
                obtain ⟨sc, sf⟩ := B7.open
                go_simp
                refine hK.out _ _ (keep1_now X (below_set7 hH.2 le7)) (fun hH2 => ?_)
                clear sc sf
                have C7 := (fun x0 x1 x2 x3 x4 x5 x6 => blk_store7 (x0 := x0) (x1 := x1) (x2 := x2) (x3 := x3) (x4 := x4) (x5 := x5) (x6 := x6) B7) (.int .i64 wd) (.int .i64 hi) (.bool wb) (.int .i64 wd) (.int .i64 hi) (.bool wb) (.func (.func 112) #[.agg #[.int .i64 wd, .int .i64 hi, .bool wb]] #[])
                replace B6 := (fun x0 x1 x2 x3 x4 x5 x6 => blk_other7 (x0 := x0) (x1 := x1) (x2 := x2) (x3 := x3) (x4 := x4) (x5 := x5) (x6 := x6) B6 n67) (.int .i64 wd) (.int .i64 hi) (.bool wb) (.int .i64 wd) (.int .i64 hi) (.bool wb) (.func (.func 112) #[.agg #[.int .i64 wd, .int .i64 hi, .bool wb]] #[])
                replace B7 := C7; clear C7
                clear hK K hH
                have hH := hH2; clear hH2
                generalize (((((((W8.setCell ⟨W10.heap.size, 0, none⟩ (.int .i64 wd)).setCell ⟨W10.heap.size, 1, none⟩ (.int .i64 hi)).setCell ⟨W10.heap.size, 2, none⟩ (.bool wb)).setCell ⟨W10.heap.size, 3, none⟩ (.int .i64 wd)).setCell ⟨W10.heap.size, 4, none⟩ (.int .i64 hi)).setCell ⟨W10.heap.size, 5, none⟩ (.bool wb)).setCell ⟨W10.heap.size, 6, none⟩ (.func (.func 112) #[.agg #[.int .i64 wd, .int .i64 hi, .bool wb]] #[])) = W9 at *
                try simp only [Act.put, List.getElem_toArray, List.getElem_cons_succ, List.getElem_cons_zero, List.setIfInBounds_toArray, List.set_cons_zero, List.set_cons_succ]
                refine wpAnyH_done (by kernel_rfl) ?_ _
                go_wp2
                go_meet
                case rel => exact ⟨_, _, rfl, rfl, B6, B7, le6, le7, hH.2⟩
            · skip
              go_simp
              refine hK.out _ _ (keep1_now X (below_next hH.2 (below_new _ (.cells #[.int .i64 0, .int .i64 0, .bool false, .int .i64 0, .int .i64 0, .bool false, .nilFunc] 80)))) (fun hH2 => ?_)
              have le7 : u2.heap.size ≤ W9.heap.size := hH.2.size
              have ne67 : W3.heap.size ≠ W9.heap.size := Nat.ne_of_lt B6.lt
              replace B6 := B6.alloc (.cells #[.int .i64 0, .int .i64 0, .bool false, .int .i64 0, .int .i64 0, .bool false, .nilFunc] 80)
              have B7 := Blk.new W9 #[.int .i64 0, .int .i64 0, .bool false, .int .i64 0, .int .i64 0, .bool false, .nilFunc] 80
              clear hK K hH
              have hH := hH2; clear hH2
              generalize W9.alloc (.cells #[.int .i64 0, .int .i64 0, .bool false, .int .i64 0, .int .i64 0, .bool false, .nilFunc] 80) = W12 at *
              try simp only [Act.put, List.getElem_toArray, List.getElem_cons_succ, List.getElem_cons_zero, List.setIfInBounds_toArray, List.set_cons_zero, List.set_cons_succ]
              refine wpAnyH_ready (rs := [5]) (by kernel_rfl) (by simp) ?_
              refine AllReadyH.cons (o := _) rfl (fun K hK => ?_) (AllReadyH.nil)
              · skip
                go_simp
                (with_reducible refine (impl_mirrorGaps _ _ _ _).mono ?_)
                rintro r W13 ⟨rfl, qa⟩
                refine hK.out _ _ (keep1_later X hH qa) (fun hH2 => ?_)
                replace B6 := B6.later qa
                replace B7 := B7.later qa
                clear hK K hH qa
                have hH := hH2; clear hH2
                try simp only [Act.put, List.getElem_toArray, List.getElem_cons_succ, List.getElem_cons_zero, List.setIfInBounds_toArray, List.set_cons_zero, List.set_cons_succ]
                have n67 : W3.heap.size ≠ W9.heap.size := ne67
                refine wpAnyH_ready (rs := [8]) (by kernel_rfl) (by simp) ?_
                refine AllReadyH.cons (o := _) rfl (fun K hK => ?_) AllReadyH.nil
                obtain ⟨sc, sf⟩ := B6.open
                go_simp
                refine hK.out _ _ (keep1_now X (below_set7 hH.2 le6)) (fun hH2 => ?_)
                clear sc sf
                have C6 := (fun x0 x1 x2 x3 x4 x5 x6 => blk_store7 (x0 := x0) (x1 := x1) (x2 := x2) (x3 := x3) (x4 := x4) (x5 := x5) (x6 := x6) B6) (.int .i64 wd) (.int .i64 hi) (.bool wb) (.int .i64 wd) (.int .i64 hi) (.bool wb) (.func (.func 111) #[.agg #[.int .i64 wd, .int .i64 hi, .bool wb]] #[])
                replace B7 := (fun x0 x1 x2 x3 x4 x5 x6 => blk_other7 (x0 := x0) (x1 := x1) (x2 := x2) (x3 := x3) (x4 := x4) (x5 := x5) (x6 := x6) B7 (Ne.symm n67)) (.int .i64 wd) (.int .i64 hi) (.bool wb) (.int .i64 wd) (.int .i64 hi) (.bool wb) (.func (.func 111) #[.agg #[.int .i64 wd, .int .i64 hi, .bool wb]] #[])
                replace B6 := C6; clear C6
                clear hK K hH
                have hH := hH2; clear hH2
                generalize (((((((W13.setCell ⟨W3.heap.size, 0, none⟩ (.int .i64 wd)).setCell ⟨W3.heap.size, 1, none⟩ (.int .i64 hi)).setCell ⟨W3.heap.size, 2, none⟩ (.bool wb)).setCell ⟨W3.heap.size, 3, none⟩ (.int .i64 wd)).setCell ⟨W3.heap.size, 4, none⟩ (.int .i64 hi)).setCell ⟨W3.heap.size, 5, none⟩ (.bool wb)).setCell ⟨W3.heap.size, 6, none⟩ (.func (.func 111) #[.agg #[.int .i64 wd, .int .i64 hi, .bool wb]] #[])) = W8 at *
                try simp only [Act.put, List.getElem_toArray, List.getElem_cons_succ, List.getElem_cons_zero, List.setIfInBounds_toArray, List.set_cons_zero, List.set_cons_succ]
                refine wpAnyH_ready (rs := [9]) (by kernel_rfl) (by simp) ?_
                refine AllReadyH.cons (o := _) rfl (fun K hK => ?_) AllReadyH.nil
                obtain ⟨sc, sf⟩ := B7.open
                go_simp
                refine hK.out _ _ (keep1_now X (below_set7 hH.2 le7)) (fun hH2 => ?_)
                clear sc sf
                have C7 := (fun x0 x1 x2 x3 x4 x5 x6 => blk_store7 (x0 := x0) (x1 := x1) (x2 := x2) (x3 := x3) (x4 := x4) (x5 := x5) (x6 := x6) B7) (.int .i64 wd) (.int .i64 hi) (.bool wb) (.int .i64 wd) (.int .i64 hi) (.bool wb) (.func (.func 112) #[.agg #[.int .i64 wd, .int .i64 hi, .bool wb]] #[])
                replace B6 := (fun x0 x1 x2 x3 x4 x5 x6 => blk_other7 (x0 := x0) (x1 := x1) (x2 := x2) (x3 := x3) (x4 := x4) (x5 := x5) (x6 := x6) B6 n67) (.int .i64 wd) (.int .i64 hi) (.bool wb) (.int .i64 wd) (.int .i64 hi) (.bool wb) (.func (.func 112) #[.agg #[.int .i64 wd, .int .i64 hi, .bool wb]] #[])
                replace B7 := C7; clear C7
                clear hK K hH
                have hH := hH2; clear hH2
                generalize (((((((W8.setCell ⟨W9.heap.size, 0, none⟩ (.int .i64 wd)).setCell ⟨W9.heap.size, 1, none⟩ (.int .i64 hi)).setCell ⟨W9.heap.size, 2, none⟩ (.bool wb)).setCell ⟨W9.heap.size, 3, none⟩ (.int .i64 wd)).setCell ⟨W9.heap.size, 4, none⟩ (.int .i64 hi)).setCell ⟨W9.heap.size, 5, none⟩ (.bool wb)).setCell ⟨W9.heap.size, 6, none⟩ (.func (.func 112) #[.agg #[.int .i64 wd, .int .i64 hi, .bool wb]] #[])) = W9 at *
                try simp only [Act.put, List.getElem_toArray, List.getElem_cons_succ, List.getElem_cons_zero, List.setIfInBounds_toArray, List.set_cons_zero, List.set_cons_succ]
                refine wpAnyH_done (by kernel_rfl) ?_ _
                go_wp2
                go_meet
                case rel => exact ⟨_, _, rfl, rfl, B6, B7, le6, le7, hH.2⟩
          · skip
            go_simp
            refine hK.out _ _ (keep1_now X (below_next hH.2 (below_new _ (.cells #[.int .i64 0, .int .i64 0, .bool false, .int .i64 0, .int .i64 0, .bool false, .nilFunc] 80)))) (fun hH2 => ?_)
            have le7 : u2.heap.size ≤ W3.heap.size := hH.2.size
            have B7 := Blk.new W3 #[.int .i64 0, .int .i64 0, .bool false, .int .i64 0, .int .i64 0, .bool false, .nilFunc] 80
            clear hK K hH
            have hH := hH2; clear hH2
            generalize W3.alloc (.cells #[.int .i64 0, .int .i64 0, .bool false, .int .i64 0, .int .i64 0, .bool false, .nilFunc] 80) = W14 at *
            try simp only [Act.put, List.getElem_toArray, List.getElem_cons_succ, List.getElem_cons_zero, List.setIfInBounds_toArray, List.set_cons_zero, List.set_cons_succ]
            refine wpAnyH_ready (rs := [5, 6]) (by kernel_rfl) (by simp) ?_
            refine AllReadyH.cons (o := _) rfl (fun K hK => ?_) (AllReadyH.cons (o := _) rfl (fun K hK => ?_) (AllReadyH.nil))
            · skip
              go_simp
              (with_reducible refine (impl_mirrorGaps _ _ _ _).mono ?_)
              rintro r W15 ⟨rfl, qa⟩
              refine hK.out _ _ (keep1_later X hH qa) (fun hH2 => ?_)
              replace B7 := B7.later qa
              clear hK K hH qa
              have hH := hH2; clear hH2
              try simp only [Act.put, List.getElem_toArray, List.getElem_cons_succ, List.getElem_cons_zero, List.setIfInBounds_toArray, List.set_cons_zero, List.set_cons_succ]
              refine wpAnyH_ready (rs := [6]) (by kernel_rfl) (by simp) ?_
              refine AllReadyH.cons (o := _) rfl (fun K hK => ?_) (AllReadyH.nil)
              · skip
                go_simp
                refine hK.out _ _ (keep1_now X (below_next hH.2 (below_new _ (.cells #[.int .i64 0, .int .i64 0, .bool false, .int .i64 0, .int .i64 0, .bool false, .nilFunc] 80)))) (fun hH2 => ?_)
                have le6 : u2.heap.size ≤ W15.heap.size := hH.2.size
                have ne76 : W3.heap.size ≠ W15.heap.size := Nat.ne_of_lt B7.lt
                replace B7 := B7.alloc (.cells #[.int .i64 0, .int .i64 0, .bool false, .int .i64 0, .int .i64 0, .bool false, .nilFunc] 80)
                have B6 := Blk.new W15 #[.int .i64 0, .int .i64 0, .bool false, .int .i64 0, .int .i64 0, .bool false, .nilFunc] 80
                clear hK K hH
                have hH := hH2; clear hH2
                generalize W15.alloc (.cells #[.int .i64 0, .int .i64 0, .bool false, .int .i64 0, .int .i64 0, .bool false, .nilFunc] 80) = W16 at *
                try simp only [Act.put, List.getElem_toArray, List.getElem_cons_succ, List.getElem_cons_zero, List.setIfInBounds_toArray, List.set_cons_zero, List.set_cons_succ]
                have n67 : W15.heap.size ≠ W3.heap.size := Ne.symm ne76
                refine wpAnyH_ready (rs := [8]) (by kernel_rfl) (by simp) ?_
                refine AllReadyH.cons (o := _) rfl (fun K hK => ?_) AllReadyH.nil
                obtain ⟨sc, sf⟩ := B6.open
                go_simp
                refine hK.out _ _ (keep1_now X (below_set7 hH.2 le6)) (fun hH2 => ?_)
                clear sc sf
                have C6 := (fun x0 x1 x2 x3 x4 x5 x6 => blk_store7 (x0 := x0) (x1 := x1) (x2 := x2) (x3 := x3) (x4 := x4) (x5 := x5) (x6 := x6) B6) (.int .i64 wd) (.int .i64 hi) (.bool wb) (.int .i64 wd) (.int .i64 hi) (.bool wb) (.func (.func 111) #[.agg #[.int .i64 wd, .int .i64 hi, .bool wb]] #[])
                replace B7 := (fun x0 x1 x2 x3 x4 x5 x6 => blk_other7 (x0 := x0) (x1 := x1) (x2 := x2) (x3 := x3) (x4 := x4) (x5 := x5) (x6 := x6) B7 (Ne.symm n67)) (.int .i64 wd) (.int .i64 hi) (.bool wb) (.int .i64 wd) (.int .i64 hi) (.bool wb) (.func (.func 111) #[.agg #[.int .i64 wd, .int .i64 hi, .bool wb]] #[])
                replace B6 := C6; clear C6
                clear hK K hH
                have hH := hH2; clear hH2
                generalize (((((((W16.setCell ⟨W15.heap.size, 0, none⟩ (.int .i64 wd)).setCell ⟨W15.heap.size, 1, none⟩ (.int .i64 hi)).setCell ⟨W15.heap.size, 2, none⟩ (.bool wb)).setCell ⟨W15.heap.size, 3, none⟩ (.int .i64 wd)).setCell ⟨W15.heap.size, 4, none⟩ (.int .i64 hi)).setCell ⟨W15.heap.size, 5, none⟩ (.bool wb)).setCell ⟨W15.heap.size, 6, none⟩ (.func (.func 111) #[.agg #[.int .i64 wd, .int .i64 hi, .bool wb]] #[])) = W8 at *
                try simp only [Act.put, List.getElem_toArray, List.getElem_cons_succ, List.getElem_cons_zero, List.setIfInBounds_toArray, List.set_cons_zero, List.set_cons_succ]
                refine wpAnyH_ready (rs := [9]) (by kernel_rfl) (by simp) ?_
                refine AllReadyH.cons (o := _) rfl (fun K hK => ?_) AllReadyH.nil
                obtain ⟨sc, sf⟩ := B7.open
                go_simp
                refine hK.out _ _ (keep1_now X (below_set7 hH.2 le7)) (fun hH2 => ?_)
                clear sc sf
                have C7 := (fun x0 x1 x2 x3 x4 x5 x6 => blk_store7 (x0 := x0) (x1 := x1) (x2 := x2) (x3 := x3) (x4 := x4) (x5 := x5) (x6 := x6) B7) (.int .i64 wd) (.int .i64 hi) (.bool wb) (.int .i64 wd) (.int .i64 hi) (.bool wb) (.func (.func 112) #[.agg #[.int .i64 wd, .int .i64 hi, .bool wb]] #[])
                replace B6 := (fun x0 x1 x2 x3 x4 x5 x6 => blk_other7 (x0 := x0) (x1 := x1) (x2 := x2) (x3 := x3) (x4 := x4) (x5 := x5) (x6 := x6) B6 n67) (.int .i64 wd) (.int .i64 hi) (.bool wb) (.int .i64 wd) (.int .i64 hi) (.bool wb) (.func (.func 112) #[.agg #[.int .i64 wd, .int .i64 hi, .bool wb]] #[])
                replace B7 := C7; clear C7
                clear hK K hH
                have hH := hH2; clear hH2
                generalize (((((((W8.setCell ⟨W3.heap.size, 0, none⟩ (.int .i64 wd)).setCell ⟨W3.heap.size, 1, none⟩ (.int .i64 hi)).setCell ⟨W3.heap.size, 2, none⟩ (.bool wb)).setCell ⟨W3.heap.size, 3, none⟩ (.int .i64 wd)).setCell ⟨W3.heap.size, 4, none⟩ (.int .i64 hi)).setCell ⟨W3.heap.size, 5, none⟩ (.bool wb)).setCell ⟨W3.heap.size, 6, none⟩ (.func (.func 112) #[.agg #[.int .i64 wd, .int .i64 hi, .bool wb]] #[])) = W9 at *
                try simp only [Act.put, List.getElem_toArray, List.getElem_cons_succ, List.getElem_cons_zero, List.setIfInBounds_toArray, List.set_cons_zero, List.set_cons_succ]
                refine wpAnyH_done (by kernel_rfl) ?_ _
                go_wp2
                go_meet
                case rel => exact ⟨_, _, rfl, rfl, B6, B7, le6, le7, hH.2⟩
            · skip
              go_simp
              refine hK.out _ _ (keep1_now X (below_next hH.2 (below_new _ (.cells #[.int .i64 0, .int .i64 0, .bool false, .int .i64 0, .int .i64 0, .bool false, .nilFunc] 80)))) (fun hH2 => ?_)
              have le6 : u2.heap.size ≤ W14.heap.size := hH.2.size
              have ne76 : W3.heap.size ≠ W14.heap.size := Nat.ne_of_lt B7.lt
              replace B7 := B7.alloc (.cells #[.int .i64 0, .int .i64 0, .bool false, .int .i64 0, .int .i64 0, .bool false, .nilFunc] 80)
              have B6 := Blk.new W14 #[.int .i64 0, .int .i64 0, .bool false, .int .i64 0, .int .i64 0, .bool false, .nilFunc] 80
              clear hK K hH
              have hH := hH2; clear hH2
              generalize W14.alloc (.cells #[.int .i64 0, .int .i64 0, .bool false, .int .i64 0, .int .i64 0, .bool false, .nilFunc] 80) = W17 at *
              try simp only [Act.put, List.getElem_toArray, List.getElem_cons_succ, List.getElem_cons_zero, List.setIfInBounds_toArray, List.set_cons_zero, List.set_cons_succ]
              refine wpAnyH_ready (rs := [5]) (by kernel_rfl) (by simp) ?_
              refine AllReadyH.cons (o := _) rfl (fun K hK => ?_) (AllReadyH.nil)
              · skip
                go_simp
                (with_reducible refine (impl_mirrorGaps _ _ _ _).mono ?_)
                rintro r W18 ⟨rfl, qa⟩
                refine hK.out _ _ (keep1_later X hH qa) (fun hH2 => ?_)
                replace B7 := B7.later qa
                replace B6 := B6.later qa
                clear hK K hH qa
                have hH := hH2; clear hH2
                try simp only [Act.put, List.getElem_toArray, List.getElem_cons_succ, List.getElem_cons_zero, List.setIfInBounds_toArray, List.set_cons_zero, List.set_cons_succ]
                have n67 : W14.heap.size ≠ W3.heap.size := Ne.symm ne76
                refine wpAnyH_ready (rs := [8]) (by kernel_rfl) (by simp) ?_
                refine AllReadyH.cons (o := _) rfl (fun K hK => ?_) AllReadyH.nil
                obtain ⟨sc, sf⟩ := B6.open
                go_simp
                refine hK.out _ _ (keep1_now X (below_set7 hH.2 le6)) (fun hH2 => ?_)
                clear sc sf
                have C6 := (fun x0 x1 x2 x3 x4 x5 x6 => blk_store7 (x0 := x0) (x1 := x1) (x2 := x2) (x3 := x3) (x4 := x4) (x5 := x5) (x6 := x6) B6) (.int .i64 wd) (.int .i64 hi) (.bool wb) (.int .i64 wd) (.int .i64 hi) (.bool wb) (.func (.func 111) #[.agg #[.int .i64 wd, .int .i64 hi, .bool wb]] #[])
                replace B7 := (fun x0 x1 x2 x3 x4 x5 x6 => blk_other7 (x0 := x0) (x1 := x1) (x2 := x2) (x3 := x3) (x4 := x4) (x5 := x5) (x6 := x6) B7 (Ne.symm n67)) (.int .i64 wd) (.int .i64 hi) (.bool wb) (.int .i64 wd) (.int .i64 hi) (.bool wb) (.func (.func 111) #[.agg #[.int .i64 wd, .int .i64 hi, .bool wb]] #[])
                replace B6 := C6; clear C6
                clear hK K hH
                have hH := hH2; clear hH2
                generalize (((((((W18.setCell ⟨W14.heap.size, 0, none⟩ (.int .i64 wd)).setCell ⟨W14.heap.size, 1, none⟩ (.int .i64 hi)).setCell ⟨W14.heap.size, 2, none⟩ (.bool wb)).setCell ⟨W14.heap.size, 3, none⟩ (.int .i64 wd)).setCell ⟨W14.heap.size, 4, none⟩ (.int .i64 hi)).setCell ⟨W14.heap.size, 5, none⟩ (.bool wb)).setCell ⟨W14.heap.size, 6, none⟩ (.func (.func 111) #[.agg #[.int .i64 wd, .int .i64 hi, .bool wb]] #[])) = W8 at *
                try simp only [Act.put, List.getElem_toArray, List.getElem_cons_succ, List.getElem_cons_zero, List.setIfInBounds_toArray, List.set_cons_zero, List.set_cons_succ]
                refine wpAnyH_ready (rs := [9]) (by kernel_rfl) (by simp) ?_
                refine AllReadyH.cons (o := _) rfl (fun K hK => ?_) AllReadyH.nil
                obtain ⟨sc, sf⟩ := B7.open
                go_simp
                refine hK.out _ _ (keep1_now X (below_set7 hH.2 le7)) (fun hH2 => ?_)
                clear sc sf
                have C7 := (fun x0 x1 x2 x3 x4 x5 x6 => blk_store7 (x0 := x0) (x1 := x1) (x2 := x2) (x3 := x3) (x4 := x4) (x5 := x5) (x6 := x6) B7) (.int .i64 wd) (.int .i64 hi) (.bool wb) (.int .i64 wd) (.int .i64 hi) (.bool wb) (.func (.func 112) #[.agg #[.int .i64 wd, .int .i64 hi, .bool wb]] #[])
                replace B6 := (fun x0 x1 x2 x3 x4 x5 x6 => blk_other7 (x0 := x0) (x1 := x1) (x2 := x2) (x3 := x3) (x4 := x4) (x5 := x5) (x6 := x6) B6 n67) (.int .i64 wd) (.int .i64 hi) (.bool wb) (.int .i64 wd) (.int .i64 hi) (.bool wb) (.func (.func 112) #[.agg #[.int .i64 wd, .int .i64 hi, .bool wb]] #[])
                replace B7 := C7; clear C7
                clear hK K hH
                have hH := hH2; clear hH2
                generalize (((((((W8.setCell ⟨W3.heap.size, 0, none⟩ (.int .i64 wd)).setCell ⟨W3.heap.size, 1, none⟩ (.int .i64 hi)).setCell ⟨W3.heap.size, 2, none⟩ (.bool wb)).setCell ⟨W3.heap.size, 3, none⟩ (.int .i64 wd)).setCell ⟨W3.heap.size, 4, none⟩ (.int .i64 hi)).setCell ⟨W3.heap.size, 5, none⟩ (.bool wb)).setCell ⟨W3.heap.size, 6, none⟩ (.func (.func 112) #[.agg #[.int .i64 wd, .int .i64 hi, .bool wb]] #[])) = W9 at *
                try simp only [Act.put, List.getElem_toArray, List.getElem_cons_succ, List.getElem_cons_zero, List.setIfInBounds_toArray, List.set_cons_zero, List.set_cons_succ]
                refine wpAnyH_done (by kernel_rfl) ?_ _
                go_wp2
                go_meet
                case rel => exact ⟨_, _, rfl, rfl, B6, B7, le6, le7, hH.2⟩
        · skip
          go_simp
          refine hK.out _ _ (keep1_now X (below_next hH.2 (below_new _ (.cells #[.int .i64 0, .int .i64 0, .bool false, .int .i64 0, .int .i64 0, .bool false, .nilFunc] 80)))) (fun hH2 => ?_)
          have le6 : u2.heap.size ≤ W2.heap.size := hH.2.size
          have B6 := Blk.new W2 #[.int .i64 0, .int .i64 0, .bool false, .int .i64 0, .int .i64 0, .bool false, .nilFunc] 80
          clear hK K hH
          have hH := hH2; clear hH2
          generalize W2.alloc (.cells #[.int .i64 0, .int .i64 0, .bool false, .int .i64 0, .int .i64 0, .bool false, .nilFunc] 80) = W19 at *
          try simp only [Act.put, List.getElem_toArray, List.getElem_cons_succ, List.getElem_cons_zero, List.setIfInBounds_toArray, List.set_cons_zero, List.set_cons_succ]
          refine wpAnyH_ready (rs := [4, 7]) (by kernel_rfl) (by simp) ?_
          refine AllReadyH.cons (o := _) rfl (fun K hK => ?_) (AllReadyH.cons (o := _) rfl (fun K hK => ?_) (AllReadyH.nil))
          · skip
            go_simp
            (with_reducible refine (implShapeOf _ _ _ _ _ _ _ _ _ _).mono ?_)
            rintro r W20 ⟨rfl, qa⟩
            refine hK.out _ _ (keep1_later X hH qa) (fun hH2 => ?_)
            replace B6 := B6.later qa
            clear hK K hH qa
            have hH := hH2; clear hH2
            try simp only [Act.put, List.getElem_toArray, List.getElem_cons_succ, List.getElem_cons_zero, List.setIfInBounds_toArray, List.set_cons_zero, List.set_cons_succ]
            refine wpAnyH_ready (rs := [5, 7]) (by kernel_rfl) (by simp) ?_
            refine AllReadyH.cons (o := _) rfl (fun K hK => ?_) (AllReadyH.cons (o := _) rfl (fun K hK => ?_) (AllReadyH.nil))
            · skip
              go_simp
              (with_reducible refine (impl_mirrorGaps _ _ _ _).mono ?_)
              rintro r W21 ⟨rfl, qa⟩
              refine hK.out _ _ (keep1_later X hH qa) (fun hH2 => ?_)
              replace B6 := B6.later qa
              clear hK K hH qa
              have hH := hH2; clear hH2
              try simp only [Act.put, List.getElem_toArray, List.getElem_cons_succ, List.getElem_cons_zero, List.setIfInBounds_toArray, List.set_cons_zero, List.set_cons_succ]
              refine wpAnyH_ready (rs := [7]) (by kernel_rfl) (by simp) ?_
              refine AllReadyH.cons (o := _) rfl (fun K hK => ?_) (AllReadyH.nil)
              · skip
                go_simp
                refine hK.out _ _ (keep1_now X (below_next hH.2 (below_new _ (.cells #[.int .i64 0, .int .i64 0, .bool false, .int .i64 0, .int .i64 0, .bool false, .nilFunc] 80)))) (fun hH2 => ?_)
                have le7 : u2.heap.size ≤ W21.heap.size := hH.2.size
                have ne67 : W2.heap.size ≠ W21.heap.size := Nat.ne_of_lt B6.lt
                replace B6 := B6.alloc (.cells #[.int .i64 0, .int .i64 0, .bool false, .int .i64 0, .int .i64 0, .bool false, .nilFunc] 80)
                have B7 := Blk.new W21 #[.int .i64 0, .int .i64 0, .bool false, .int .i64 0, .int .i64 0, .bool false, .nilFunc] 80
                clear hK K hH
                have hH := hH2; clear hH2
                generalize W21.alloc (.cells #[.int .i64 0, .int .i64 0, .bool false, .int .i64 0, .int .i64 0, .bool false, .nilFunc] 80) = W22 at *
                try simp only [Act.put, List.getElem_toArray, List.getElem_cons_succ, List.getElem_cons_zero, List.setIfInBounds_toArray, List.set_cons_zero, List.set_cons_succ]
                have n67 : W2.heap.size ≠ W21.heap.size := ne67
                refine wpAnyH_ready (rs := [8]) (by kernel_rfl) (by simp) ?_
                refine AllReadyH.cons (o := _) rfl (fun K hK => ?_) AllReadyH.nil
                obtain ⟨sc, sf⟩ := B6.open
                go_simp
                refine hK.out _ _ (keep1_now X (below_set7 hH.2 le6)) (fun hH2 => ?_)
                clear sc sf
                have C6 := (fun x0 x1 x2 x3 x4 x5 x6 => blk_store7 (x0 := x0) (x1 := x1) (x2 := x2) (x3 := x3) (x4 := x4) (x5 := x5) (x6 := x6) B6) (.int .i64 wd) (.int .i64 hi) (.bool wb) (.int .i64 wd) (.int .i64 hi) (.bool wb) (.func (.func 111) #[.agg #[.int .i64 wd, .int .i64 hi, .bool wb]] #[])
                replace B7 := (fun x0 x1 x2 x3 x4 x5 x6 => blk_other7 (x0 := x0) (x1 := x1) (x2 := x2) (x3 := x3) (x4 := x4) (x5 := x5) (x6 := x6) B7 (Ne.symm n67)) (.int .i64 wd) (.int .i64 hi) (.bool wb) (.int .i64 wd) (.int .i64 hi) (.bool wb) (.func (.func 111) #[.agg #[.int .i64 wd, .int .i64 hi, .bool wb]] #[])
                replace B6 := C6; clear C6
                clear hK K hH
                have hH := hH2; clear hH2
                generalize (((((((W22.setCell ⟨W2.heap.size, 0, none⟩ (.int .i64 wd)).setCell ⟨W2.heap.size, 1, none⟩ (.int .i64 hi)).setCell ⟨W2.heap.size, 2, none⟩ (.bool wb)).setCell ⟨W2.heap.size, 3, none⟩ (.int .i64 wd)).setCell ⟨W2.heap.size, 4, none⟩ (.int .i64 hi)).setCell ⟨W2.heap.size, 5, none⟩ (.bool wb)).setCell ⟨W2.heap.size, 6, none⟩ (.func (.func 111) #[.agg #[.int .i64 wd, .int .i64 hi, .bool wb]] #[])) = W8 at *
                try simp only [Act.put, List.getElem_toArray, List.getElem_cons_succ, List.getElem_cons_zero, List.setIfInBounds_toArray, List.set_cons_zero, List.set_cons_succ]
                refine wpAnyH_ready (rs := [9]) (by kernel_rfl) (by simp) ?_
                refine AllReadyH.cons (o := _) rfl (fun K hK => ?_) AllReadyH.nil
                obtain ⟨sc, sf⟩ := B7.open
                go_simp
                refine hK.out _ _ (keep1_now X (below_set7 hH.2 le7)) (fun hH2 => ?_)
                clear sc sf
                have C7 := (fun x0 x1 x2 x3 x4 x5 x6 => blk_store7 (x0 := x0) (x1 := x1) (x2 := x2) (x3 := x3) (x4 := x4) (x5 := x5) (x6 := x6) B7) (.int .i64 wd) (.int .i64 hi) (.bool wb) (.int .i64 wd) (.int .i64 hi) (.bool wb) (.func (.func 112) #[.agg #[.int .i64 wd, .int .i64 hi, .bool wb]] #[])
                replace B6 := (fun x0 x1 x2 x3 x4 x5 x6 => blk_other7 (x0 := x0) (x1 := x1) (x2 := x2) (x3 := x3) (x4 := x4) (x5 := x5) (x6 := x6) B6 n67) (.int .i64 wd) (.int .i64 hi) (.bool wb) (.int .i64 wd) (.int .i64 hi) (.bool wb) (.func (.func 112) #[.agg #[.int .i64 wd, .int .i64 hi, .bool wb]] #[])
                replace B7 := C7; clear C7
                clear hK K hH
                have hH := hH2; clear hH2
                generalize (((((((W8.setCell ⟨W21.heap.size, 0, none⟩ (.int .i64 wd)).setCell ⟨W21.heap.size, 1, none⟩ (.int .i64 hi)).setCell ⟨W21.heap.size, 2, none⟩ (.bool wb)).setCell ⟨W21.heap.size, 3, none⟩ (.int .i64 wd)).setCell ⟨W21.heap.size, 4, none⟩ (.int .i64 hi)).setCell ⟨W21.heap.size, 5, none⟩ (.bool wb)).setCell ⟨W21.heap.size, 6, none⟩ (.func (.func 112) #[.agg #[.int .i64 wd, .int .i64 hi, .bool wb]] #[])) = W9 at *
                try simp only [Act.put, List.getElem_toArray, List.getElem_cons_succ, List.getElem_cons_zero, List.setIfInBounds_toArray, List.set_cons_zero, List.set_cons_succ]
                refine wpAnyH_done (by kernel_rfl) ?_ _
                go_wp2
                go_meet
                case rel => exact ⟨_, _, rfl, rfl, B6, B7, le6, le7, hH.2⟩
            · skip
              go_simp
              refine hK.out _ _ (keep1_now X (below_next hH.2 (below_new _ (.cells #[.int .i64 0, .int .i64 0, .bool false, .int .i64 0, .int .i64 0, .bool false, .nilFunc] 80)))) (fun hH2 => ?_)
              have le7 : u2.heap.size ≤ W20.heap.size := hH.2.size
              have ne67 : W2.heap.size ≠ W20.heap.size := Nat.ne_of_lt B6.lt
              replace B6 := B6.alloc (.cells #[.int .i64 0, .int .i64 0, .bool false, .int .i64 0, .int .i64 0, .bool false, .nilFunc] 80)
              have B7 := Blk.new W20 #[.int .i64 0, .int .i64 0, .bool false, .int .i64 0, .int .i64 0, .bool false, .nilFunc] 80
              clear hK K hH
              have hH := hH2; clear hH2
              generalize W20.alloc (.cells #[.int .i64 0, .int .i64 0, .bool false, .int .i64 0, .int .i64 0, .bool false, .nilFunc] 80) = W23 at *
              try simp only [Act.put, List.getElem_toArray, List.getElem_cons_succ, List.getElem_cons_zero, List.setIfInBounds_toArray, List.set_cons_zero, List.set_cons_succ]
              refine wpAnyH_ready (rs := [5]) (by kernel_rfl) (by simp) ?_
              refine AllReadyH.cons (o := _) rfl (fun K hK => ?_) (AllReadyH.nil)
              · skip
                go_simp
                (with_reducible refine (impl_mirrorGaps _ _ _ _).mono ?_)
                rintro r W24 ⟨rfl, qa⟩
                refine hK.out _ _ (keep1_later X hH qa) (fun hH2 => ?_)
                replace B6 := B6.later qa
                replace B7 := B7.later qa
                clear hK K hH qa
                have hH := hH2; clear hH2
                try simp only [Act.put, List.getElem_toArray, List.getElem_cons_succ, List.getElem_cons_zero, List.setIfInBounds_toArray, List.set_cons_zero, List.set_cons_succ]
                have n67 : W2.heap.size ≠ W20.heap.size := ne67
                refine wpAnyH_ready (rs := [8]) (by kernel_rfl) (by simp) ?_
                refine AllReadyH.cons (o := _) rfl (fun K hK => ?_) AllReadyH.nil
                obtain ⟨sc, sf⟩ := B6.open
                go_simp
                refine hK.out _ _ (keep1_now X (below_set7 hH.2 le6)) (fun hH2 => ?_)
                clear sc sf
                have C6 := (fun x0 x1 x2 x3 x4 x5 x6 => blk_store7 (x0 := x0) (x1 := x1) (x2 := x2) (x3 := x3) (x4 := x4) (x5 := x5) (x6 := x6) B6) (.int .i64 wd) (.int .i64 hi) (.bool wb) (.int .i64 wd) (.int .i64 hi) (.bool wb) (.func (.func 111) #[.agg #[.int .i64 wd, .int .i64 hi, .bool wb]] #[])
                replace B7 := (fun x0 x1 x2 x3 x4 x5 x6 => blk_other7 (x0 := x0) (x1 := x1) (x2 := x2) (x3 := x3) (x4 := x4) (x5 := x5) (x6 := x6) B7 (Ne.symm n67)) (.int .i64 wd) (.int .i64 hi) (.bool wb) (.int .i64 wd) (.int .i64 hi) (.bool wb) (.func (.func 111) #[.agg #[.int .i64 wd, .int .i64 hi, .bool wb]] #[])
                replace B6 := C6; clear C6
                clear hK K hH
                have hH := hH2; clear hH2
                generalize (((((((W24.setCell ⟨W2.heap.size, 0, none⟩ (.int .i64 wd)).setCell ⟨W2.heap.size, 1, none⟩ (.int .i64 hi)).setCell ⟨W2.heap.size, 2, none⟩ (.bool wb)).setCell ⟨W2.heap.size, 3, none⟩ (.int .i64 wd)).setCell ⟨W2.heap.size, 4, none⟩ (.int .i64 hi)).setCell ⟨W2.heap.size, 5, none⟩ (.bool wb)).setCell ⟨W2.heap.size, 6, none⟩ (.func (.func 111) #[.agg #[.int .i64 wd, .int .i64 hi, .bool wb]] #[])) = W8 at *
                try simp only [Act.put, List.getElem_toArray, List.getElem_cons_succ, List.getElem_cons_zero, List.setIfInBounds_toArray, List.set_cons_zero, List.set_cons_succ]
                refine wpAnyH_ready (rs := [9]) (by kernel_rfl) (by simp) ?_
                refine AllReadyH.cons (o := _) rfl (fun K hK => ?_) AllReadyH.nil
                obtain ⟨sc, sf⟩ := B7.open
                go_simp
                refine hK.out _ _ (keep1_now X (below_set7 hH.2 le7)) (fun hH2 => ?_)
                clear sc sf
                have C7 := (fun x0 x1 x2 x3 x4 x5 x6 => blk_store7 (x0 := x0) (x1 := x1) (x2 := x2) (x3 := x3) (x4 := x4) (x5 := x5) (x6 := x6) B7) (.int .i64 wd) (.int .i64 hi) (.bool wb) (.int .i64 wd) (.int .i64 hi) (.bool wb) (.func (.func 112) #[.agg #[.int .i64 wd, .int .i64 hi, .bool wb]] #[])
                replace B6 := (fun x0 x1 x2 x3 x4 x5 x6 => blk_other7 (x0 := x0) (x1 := x1) (x2 := x2) (x3 := x3) (x4 := x4) (x5 := x5) (x6 := x6) B6 n67) (.int .i64 wd) (.int .i64 hi) (.bool wb) (.int .i64 wd) (.int .i64 hi) (.bool wb) (.func (.func 112) #[.agg #[.int .i64 wd, .int .i64 hi, .bool wb]] #[])
                replace B7 := C7; clear C7
                clear hK K hH
                have hH := hH2; clear hH2
                generalize (((((((W8.setCell ⟨W20.heap.size, 0, none⟩ (.int .i64 wd)).setCell ⟨W20.heap.size, 1, none⟩ (.int .i64 hi)).setCell ⟨W20.heap.size, 2, none⟩ (.bool wb)).setCell ⟨W20.heap.size, 3, none⟩ (.int .i64 wd)).setCell ⟨W20.heap.size, 4, none⟩ (.int .i64 hi)).setCell ⟨W20.heap.size, 5, none⟩ (.bool wb)).setCell ⟨W20.heap.size, 6, none⟩ (.func (.func 112) #[.agg #[.int .i64 wd, .int .i64 hi, .bool wb]] #[])) = W9 at *
                try simp only [Act.put, List.getElem_toArray, List.getElem_cons_succ, List.getElem_cons_zero, List.setIfInBounds_toArray, List.set_cons_zero, List.set_cons_succ]
                refine wpAnyH_done (by kernel_rfl) ?_ _
                go_wp2
                go_meet
                case rel => exact ⟨_, _, rfl, rfl, B6, B7, le6, le7, hH.2⟩
          · skip
            go_simp
            refine hK.out _ _ (keep1_now X (below_next hH.2 (below_new _ (.cells #[.int .i64 0, .int .i64 0, .bool false, .int .i64 0, .int .i64 0, .bool false, .nilFunc] 80)))) (fun hH2 => ?_)
            have le7 : u2.heap.size ≤ W19.heap.size := hH.2.size
            have ne67 : W2.heap.size ≠ W19.heap.size := Nat.ne_of_lt B6.lt
            replace B6 := B6.alloc (.cells #[.int .i64 0, .int .i64 0, .bool false, .int .i64 0, .int .i64 0, .bool false, .nilFunc] 80)
            have B7 := Blk.new W19 #[.int .i64 0, .int .i64 0, .bool false, .int .i64 0, .int .i64 0, .bool false, .nilFunc] 80
            clear hK K hH
            have hH := hH2; clear hH2
            generalize W19.alloc (.cells #[.int .i64 0, .int .i64 0, .bool false, .int .i64 0, .int .i64 0, .bool false, .nilFunc] 80) = W25 at *
            try simp only [Act.put, List.getElem_toArray, List.getElem_cons_succ, List.getElem_cons_zero, List.setIfInBounds_toArray, List.set_cons_zero, List.set_cons_succ]
            refine wpAnyH_ready (rs := [4]) (by kernel_rfl) (by simp) ?_
            refine AllReadyH.cons (o := _) rfl (fun K hK => ?_) (AllReadyH.nil)
            · skip
              go_simp
              (with_reducible refine (implShapeOf _ _ _ _ _ _ _ _ _ _).mono ?_)
              rintro r W26 ⟨rfl, qa⟩
              refine hK.out _ _ (keep1_later X hH qa) (fun hH2 => ?_)
              replace B6 := B6.later qa
              replace B7 := B7.later qa
              clear hK K hH qa
              have hH := hH2; clear hH2
              try simp only [Act.put, List.getElem_toArray, List.getElem_cons_succ, List.getElem_cons_zero, List.setIfInBounds_toArray, List.set_cons_zero, List.set_cons_succ]
              refine wpAnyH_ready (rs := [5]) (by kernel_rfl) (by simp) ?_
              refine AllReadyH.cons (o := _) rfl (fun K hK => ?_) (AllReadyH.nil)
              · skip
                go_simp
                (with_reducible refine (impl_mirrorGaps _ _ _ _).mono ?_)
                rintro r W27 ⟨rfl, qa⟩
                refine hK.out _ _ (keep1_later X hH qa) (fun hH2 => ?_)
                replace B6 := B6.later qa
                replace B7 := B7.later qa
                clear hK K hH qa
                have hH := hH2; clear hH2
                try simp only [Act.put, List.getElem_toArray, List.getElem_cons_succ, List.getElem_cons_zero, List.setIfInBounds_toArray, List.set_cons_zero, List.set_cons_succ]
                have n67 : W2.heap.size ≠ W19.heap.size := ne67
                refine wpAnyH_ready (rs := [8]) (by kernel_rfl) (by simp) ?_
                refine AllReadyH.cons (o := _) rfl (fun K hK => ?_) AllReadyH.nil
                obtain ⟨sc, sf⟩ := B6.open
                go_simp
                refine hK.out _ _ (keep1_now X (below_set7 hH.2 le6)) (fun hH2 => ?_)
                clear sc sf
                have C6 := (fun x0 x1 x2 x3 x4 x5 x6 => blk_store7 (x0 := x0) (x1 := x1) (x2 := x2) (x3 := x3) (x4 := x4) (x5 := x5) (x6 := x6) B6) (.int .i64 wd) (.int .i64 hi) (.bool wb) (.int .i64 wd) (.int .i64 hi) (.bool wb) (.func (.func 111) #[.agg #[.int .i64 wd, .int .i64 hi, .bool wb]] #[])
                replace B7 := (fun x0 x1 x2 x3 x4 x5 x6 => blk_other7 (x0 := x0) (x1 := x1) (x2 := x2) (x3 := x3) (x4 := x4) (x5 := x5) (x6 := x6) B7 (Ne.symm n67)) (.int .i64 wd) (.int .i64 hi) (.bool wb) (.int .i64 wd) (.int .i64 hi) (.bool wb) (.func (.func 111) #[.agg #[.int .i64 wd, .int .i64 hi, .bool wb]] #[])
                replace B6 := C6; clear C6
                clear hK K hH
                have hH := hH2; clear hH2
                generalize (((((((W27.setCell ⟨W2.heap.size, 0, none⟩ (.int .i64 wd)).setCell ⟨W2.heap.size, 1, none⟩ (.int .i64 hi)).setCell ⟨W2.heap.size, 2, none⟩ (.bool wb)).setCell ⟨W2.heap.size, 3, none⟩ (.int .i64 wd)).setCell ⟨W2.heap.size, 4, none⟩ (.int .i64 hi)).setCell ⟨W2.heap.size, 5, none⟩ (.bool wb)).setCell ⟨W2.heap.size, 6, none⟩ (.func (.func 111) #[.agg #[.int .i64 wd, .int .i64 hi, .bool wb]] #[])) = W8 at *
                try simp only [Act.put, List.getElem_toArray, List.getElem_cons_succ, List.getElem_cons_zero, List.setIfInBounds_toArray, List.set_cons_zero, List.set_cons_succ]
                refine wpAnyH_ready (rs := [9]) (by kernel_rfl) (by simp) ?_
                refine AllReadyH.cons (o := _) rfl (fun K hK => ?_) AllReadyH.nil
                obtain ⟨sc, sf⟩ := B7.open
                go_simp
                refine hK.out _ _ (keep1_now X (below_set7 hH.2 le7)) (fun hH2 => ?_)
                clear sc sf
                have C7 := (fun x0 x1 x2 x3 x4 x5 x6 => blk_store7 (x0 := x0) (x1 := x1) (x2 := x2) (x3 := x3) (x4 := x4) (x5 := x5) (x6 := x6) B7) (.int .i64 wd) (.int .i64 hi) (.bool wb) (.int .i64 wd) (.int .i64 hi) (.bool wb) (.func (.func 112) #[.agg #[.int .i64 wd, .int .i64 hi, .bool wb]] #[])
                replace B6 := (fun x0 x1 x2 x3 x4 x5 x6 => blk_other7 (x0 := x0) (x1 := x1) (x2 := x2) (x3 := x3) (x4 := x4) (x5 := x5) (x6 := x6) B6 n67) (.int .i64 wd) (.int .i64 hi) (.bool wb) (.int .i64 wd) (.int .i64 hi) (.bool wb) (.func (.func 112) #[.agg #[.int .i64 wd, .int .i64 hi, .bool wb]] #[])
                replace B7 := C7; clear C7
                clear hK K hH
                have hH := hH2; clear hH2
                generalize (((((((W8.setCell ⟨W19.heap.size, 0, none⟩ (.int .i64 wd)).setCell ⟨W19.heap.size, 1, none⟩ (.int .i64 hi)).setCell ⟨W19.heap.size, 2, none⟩ (.bool wb)).setCell ⟨W19.heap.size, 3, none⟩ (.int .i64 wd)).setCell ⟨W19.heap.size, 4, none⟩ (.int .i64 hi)).setCell ⟨W19.heap.size, 5, none⟩ (.bool wb)).setCell ⟨W19.heap.size, 6, none⟩ (.func (.func 112) #[.agg #[.int .i64 wd, .int .i64 hi, .bool wb]] #[])) = W9 at *
                try simp only [Act.put, List.getElem_toArray, List.getElem_cons_succ, List.getElem_cons_zero, List.setIfInBounds_toArray, List.set_cons_zero, List.set_cons_succ]
                refine wpAnyH_done (by kernel_rfl) ?_ _
                go_wp2
                go_meet
                case rel => exact ⟨_, _, rfl, rfl, B6, B7, le6, le7, hH.2⟩
        · skip
          go_simp
          refine hK.out _ _ (keep1_now X (below_next hH.2 (below_new _ (.cells #[.int .i64 0, .int .i64 0, .bool false, .int .i64 0, .int .i64 0, .bool false, .nilFunc] 80)))) (fun hH2 => ?_)
          have le7 : u2.heap.size ≤ W2.heap.size := hH.2.size
          have B7 := Blk.new W2 #[.int .i64 0, .int .i64 0, .bool false, .int .i64 0, .int .i64 0, .bool false, .nilFunc] 80
          clear hK K hH
          have hH := hH2; clear hH2
          generalize W2.alloc (.cells #[.int .i64 0, .int .i64 0, .bool false, .int .i64 0, .int .i64 0, .bool false, .nilFunc] 80) = W28 at *
          try simp only [Act.put, List.getElem_toArray, List.getElem_cons_succ, List.getElem_cons_zero, List.setIfInBounds_toArray, List.set_cons_zero, List.set_cons_succ]
          refine wpAnyH_ready (rs := [4, 6]) (by kernel_rfl) (by simp) ?_
          refine AllReadyH.cons (o := _) rfl (fun K hK => ?_) (AllReadyH.cons (o := _) rfl (fun K hK => ?_) (AllReadyH.nil))
          · skip
            go_simp
            (with_reducible refine (implShapeOf _ _ _ _ _ _ _ _ _ _).mono ?_)
            rintro r W29 ⟨rfl, qa⟩
            refine hK.out _ _ (keep1_later X hH qa) (fun hH2 => ?_)
            replace B7 := B7.later qa
            clear hK K hH qa
            have hH := hH2; clear hH2
            try simp only [Act.put, List.getElem_toArray, List.getElem_cons_succ, List.getElem_cons_zero, List.setIfInBounds_toArray, List.set_cons_zero, List.set_cons_succ]
            refine wpAnyH_ready (rs := [5, 6]) (by kernel_rfl) (by simp) ?_
            refine AllReadyH.cons (o := _) rfl (fun K hK => ?_) (AllReadyH.cons (o := _) rfl (fun K hK => ?_) (AllReadyH.nil))
            · skip
              go_simp
              (with_reducible refine (impl_mirrorGaps _ _ _ _).mono ?_)
              rintro r W30 ⟨rfl, qa⟩
              refine hK.out _ _ (keep1_later X hH qa) (fun hH2 => ?_)
              replace B7 := B7.later qa
              clear hK K hH qa
              have hH := hH2; clear hH2
              try simp only [Act.put, List.getElem_toArray, List.getElem_cons_succ, List.getElem_cons_zero, List.setIfInBounds_toArray, List.set_cons_zero, List.set_cons_succ]
              refine wpAnyH_ready (rs := [6]) (by kernel_rfl) (by simp) ?_
              refine AllReadyH.cons (o := _) rfl (fun K hK => ?_) (AllReadyH.nil)
              · skip
                go_simp
                refine hK.out _ _ (keep1_now X (below_next hH.2 (below_new _ (.cells #[.int .i64 0, .int .i64 0, .bool false, .int .i64 0, .int .i64 0, .bool false, .nilFunc] 80)))) (fun hH2 => ?_)
                have le6 : u2.heap.size ≤ W30.heap.size := hH.2.size
                have ne76 : W2.heap.size ≠ W30.heap.size := Nat.ne_of_lt B7.lt
                replace B7 := B7.alloc (.cells #[.int .i64 0, .int .i64 0, .bool false, .int .i64 0, .int .i64 0, .bool false, .nilFunc] 80)
                have B6 := Blk.new W30 #[.int .i64 0, .int .i64 0, .bool false, .int .i64 0, .int .i64 0, .bool false, .nilFunc] 80
                clear hK K hH
                have hH := hH2; clear hH2
                generalize W30.alloc (.cells #[.int .i64 0, .int .i64 0, .bool false, .int .i64 0, .int .i64 0, .bool false, .nilFunc] 80) = W31 at *
                try simp only [Act.put, List.getElem_toArray, List.getElem_cons_succ, List.getElem_cons_zero, List.setIfInBounds_toArray, List.set_cons_zero, List.set_cons_succ]
                have n67 : W30.heap.size ≠ W2.heap.size := Ne.symm ne76
                refine wpAnyH_ready (rs := [8]) (by kernel_rfl) (by simp) ?_
                refine AllReadyH.cons (o := _) rfl (fun K hK => ?_) AllReadyH.nil
                obtain ⟨sc, sf⟩ := B6.open
                go_simp
                refine hK.out _ _ (keep1_now X (below_set7 hH.2 le6)) (fun hH2 => ?_)
                clear sc sf
                have C6 := (fun x0 x1 x2 x3 x4 x5 x6 => blk_store7 (x0 := x0) (x1 := x1) (x2 := x2) (x3 := x3) (x4 := x4) (x5 := x5) (x6 := x6) B6) (.int .i64 wd) (.int .i64 hi) (.bool wb) (.int .i64 wd) (.int .i64 hi) (.bool wb) (.func (.func 111) #[.agg #[.int .i64 wd, .int .i64 hi, .bool wb]] #[])
                replace B7 := (fun x0 x1 x2 x3 x4 x5 x6 => blk_other7 (x0 := x0) (x1 := x1) (x2 := x2) (x3 := x3) (x4 := x4) (x5 := x5) (x6 := x6) B7 (Ne.symm n67)) (.int .i64 wd) (.int .i64 hi) (.bool wb) (.int .i64 wd) (.int .i64 hi) (.bool wb) (.func (.func 111) #[.agg #[.int .i64 wd, .int .i64 hi, .bool wb]] #[])
                replace B6 := C6; clear C6
                clear hK K hH
                have hH := hH2; clear hH2
                generalize (((((((W31.setCell ⟨W30.heap.size, 0, none⟩ (.int .i64 wd)).setCell ⟨W30.heap.size, 1, none⟩ (.int .i64 hi)).setCell ⟨W30.heap.size, 2, none⟩ (.bool wb)).setCell ⟨W30.heap.size, 3, none⟩ (.int .i64 wd)).setCell ⟨W30.heap.size, 4, none⟩ (.int .i64 hi)).setCell ⟨W30.heap.size, 5, none⟩ (.bool wb)).setCell ⟨W30.heap.size, 6, none⟩ (.func (.func 111) #[.agg #[.int .i64 wd, .int .i64 hi, .bool wb]] #[])) = W8 at *
                try simp only [Act.put, List.getElem_toArray, List.getElem_cons_succ, List.getElem_cons_zero, List.setIfInBounds_toArray, List.set_cons_zero, List.set_cons_succ]
                refine wpAnyH_ready (rs := [9]) (by kernel_rfl) (by simp) ?_
                refine AllReadyH.cons (o := _) rfl (fun K hK => ?_) AllReadyH.nil
                obtain ⟨sc, sf⟩ := B7.open
                go_simp
                refine hK.out _ _ (keep1_now X (below_set7 hH.2 le7)) (fun hH2 => ?_)
                clear sc sf
                have C7 := (fun x0 x1 x2 x3 x4 x5 x6 => blk_store7 (x0 := x0) (x1 := x1) (x2 := x2) (x3 := x3) (x4 := x4) (x5 := x5) (x6 := x6) B7) (.int .i64 wd) (.int .i64 hi) (.bool wb) (.int .i64 wd) (.int .i64 hi) (.bool wb) (.func (.func 112) #[.agg #[.int .i64 wd, .int .i64 hi, .bool wb]] #[])
                replace B6 := (fun x0 x1 x2 x3 x4 x5 x6 => blk_other7 (x0 := x0) (x1 := x1) (x2 := x2) (x3 := x3) (x4 := x4) (x5 := x5) (x6 := x6) B6 n67) (.int .i64 wd) (.int .i64 hi) (.bool wb) (.int .i64 wd) (.int .i64 hi) (.bool wb) (.func (.func 112) #[.agg #[.int .i64 wd, .int .i64 hi, .bool wb]] #[])
                replace B7 := C7; clear C7
                clear hK K hH
                have hH := hH2; clear hH2
                generalize (((((((W8.setCell ⟨W2.heap.size, 0, none⟩ (.int .i64 wd)).setCell ⟨W2.heap.size, 1, none⟩ (.int .i64 hi)).setCell ⟨W2.heap.size, 2, none⟩ (.bool wb)).setCell ⟨W2.heap.size, 3, none⟩ (.int .i64 wd)).setCell ⟨W2.heap.size, 4, none⟩ (.int .i64 hi)).setCell ⟨W2.heap.size, 5, none⟩ (.bool wb)).setCell ⟨W2.heap.size, 6, none⟩ (.func (.func 112) #[.agg #[.int .i64 wd, .int .i64 hi, .bool wb]] #[])) = W9 at *
                try simp only [Act.put, List.getElem_toArray, List.getElem_cons_succ, List.getElem_cons_zero, List.setIfInBounds_toArray, List.set_cons_zero, List.set_cons_succ]
                refine wpAnyH_done (by kernel_rfl) ?_ _
                go_wp2
                go_meet
                case rel => exact ⟨_, _, rfl, rfl, B6, B7, le6, le7, hH.2⟩
            · skip
              go_simp
              refine hK.out _ _ (keep1_now X (below_next hH.2 (below_new _ (.cells #[.int .i64 0, .int .i64 0, .bool false, .int .i64 0, .int .i64 0, .bool false, .nilFunc] 80)))) (fun hH2 => ?_)
              have le6 : u2.heap.size ≤ W29.heap.size := hH.2.size
              have ne76 : W2.heap.size ≠ W29.heap.size := Nat.ne_of_lt B7.lt
              replace B7 := B7.alloc (.cells #[.int .i64 0, .int .i64 0, .bool false, .int .i64 0, .int .i64 0, .bool false, .nilFunc] 80)
              have B6 := Blk.new W29 #[.int .i64 0, .int .i64 0, .bool false, .int .i64 0, .int .i64 0, .bool false, .nilFunc] 80
              clear hK K hH
              have hH := hH2; clear hH2
              generalize W29.alloc (.cells #[.int .i64 0, .int .i64 0, .bool false, .int .i64 0, .int .i64 0, .bool false, .nilFunc] 80) = W32 at *
              try simp only [Act.put, List.getElem_toArray, List.getElem_cons_succ, List.getElem_cons_zero, List.setIfInBounds_toArray, List.set_cons_zero, List.set_cons_succ]
              refine wpAnyH_ready (rs := [5]) (by kernel_rfl) (by simp) ?_
              refine AllReadyH.cons (o := _) rfl (fun K hK => ?_) (AllReadyH.nil)
              · skip
                go_simp
                (with_reducible refine (impl_mirrorGaps _ _ _ _).mono ?_)
                rintro r W33 ⟨rfl, qa⟩
                refine hK.out _ _ (keep1_later X hH qa) (fun hH2 => ?_)
                replace B7 := B7.later qa
                replace B6 := B6.later qa
                clear hK K hH qa
                have hH := hH2; clear hH2
                try simp only [Act.put, List.getElem_toArray, List.getElem_cons_succ, List.getElem_cons_zero, List.setIfInBounds_toArray, List.set_cons_zero, List.set_cons_succ]
                have n67 : W29.heap.size ≠ W2.heap.size := Ne.symm ne76
                refine wpAnyH_ready (rs := [8]) (by kernel_rfl) (by simp) ?_
                refine AllReadyH.cons (o := _) rfl (fun K hK => ?_) AllReadyH.nil
                obtain ⟨sc, sf⟩ := B6.open
                go_simp
                refine hK.out _ _ (keep1_now X (below_set7 hH.2 le6)) (fun hH2 => ?_)
                clear sc sf
                have C6 := (fun x0 x1 x2 x3 x4 x5 x6 => blk_store7 (x0 := x0) (x1 := x1) (x2 := x2) (x3 := x3) (x4 := x4) (x5 := x5) (x6 := x6) B6) (.int .i64 wd) (.int .i64 hi) (.bool wb) (.int .i64 wd) (.int .i64 hi) (.bool wb) (.func (.func 111) #[.agg #[.int .i64 wd, .int .i64 hi, .bool wb]] #[])
                replace B7 := (fun x0 x1 x2 x3 x4 x5 x6 => blk_other7 (x0 := x0) (x1 := x1) (x2 := x2) (x3 := x3) (x4 := x4) (x5 := x5) (x6 := x6) B7 (Ne.symm n67)) (.int .i64 wd) (.int .i64 hi) (.bool wb) (.int .i64 wd) (.int .i64 hi) (.bool wb) (.func (.func 111) #[.agg #[.int .i64 wd, .int .i64 hi, .bool wb]] #[])
                replace B6 := C6; clear C6
                clear hK K hH
                have hH := hH2; clear hH2
                generalize (((((((W33.setCell ⟨W29.heap.size, 0, none⟩ (.int .i64 wd)).setCell ⟨W29.heap.size, 1, none⟩ (.int .i64 hi)).setCell ⟨W29.heap.size, 2, none⟩ (.bool wb)).setCell ⟨W29.heap.size, 3, none⟩ (.int .i64 wd)).setCell ⟨W29.heap.size, 4, none⟩ (.int .i64 hi)).setCell ⟨W29.heap.size, 5, none⟩ (.bool wb)).setCell ⟨W29.heap.size, 6, none⟩ (.func (.func 111) #[.agg #[.int .i64 wd, .int .i64 hi, .bool wb]] #[])) = W8 at *
                try simp only [Act.put, List.getElem_toArray, List.getElem_cons_succ, List.getElem_cons_zero, List.setIfInBounds_toArray, List.set_cons_zero, List.set_cons_succ]
                refine wpAnyH_ready (rs := [9]) (by kernel_rfl) (by simp) ?_
                refine AllReadyH.cons (o := _) rfl (fun K hK => ?_) AllReadyH.nil
                obtain ⟨sc, sf⟩ := B7.open
                go_simp
                refine hK.out _ _ (keep1_now X (below_set7 hH.2 le7)) (fun hH2 => ?_)
                clear sc sf
                have C7 := (fun x0 x1 x2 x3 x4 x5 x6 => blk_store7 (x0 := x0) (x1 := x1) (x2 := x2) (x3 := x3) (x4 := x4) (x5 := x5) (x6 := x6) B7) (.int .i64 wd) (.int .i64 hi) (.bool wb) (.int .i64 wd) (.int .i64 hi) (.bool wb) (.func (.func 112) #[.agg #[.int .i64 wd, .int .i64 hi, .bool wb]] #[])
                replace B6 := (fun x0 x1 x2 x3 x4 x5 x6 => blk_other7 (x0 := x0) (x1 := x1) (x2 := x2) (x3 := x3) (x4 := x4) (x5 := x5) (x6 := x6) B6 n67) (.int .i64 wd) (.int .i64 hi) (.bool wb) (.int .i64 wd) (.int .i64 hi) (.bool wb) (.func (.func 112) #[.agg #[.int .i64 wd, .int .i64 hi, .bool wb]] #[])
                replace B7 := C7; clear C7
                clear hK K hH
                have hH := hH2; clear hH2
                generalize (((((((W8.setCell ⟨W2.heap.size, 0, none⟩ (.int .i64 wd)).setCell ⟨W2.heap.size, 1, none⟩ (.int .i64 hi)).setCell ⟨W2.heap.size, 2, none⟩ (.bool wb)).setCell ⟨W2.heap.size, 3, none⟩ (.int .i64 wd)).setCell ⟨W2.heap.size, 4, none⟩ (.int .i64 hi)).setCell ⟨W2.heap.size, 5, none⟩ (.bool wb)).setCell ⟨W2.heap.size, 6, none⟩ (.func (.func 112) #[.agg #[.int .i64 wd, .int .i64 hi, .bool wb]] #[])) = W9 at *
                try simp only [Act.put, List.getElem_toArray, List.getElem_cons_succ, List.getElem_cons_zero, List.setIfInBounds_toArray, List.set_cons_zero, List.set_cons_succ]
                refine wpAnyH_done (by kernel_rfl) ?_ _
                go_wp2
                go_meet
                case rel => exact ⟨_, _, rfl, rfl, B6, B7, le6, le7, hH.2⟩
          · skip
            go_simp
            refine hK.out _ _ (keep1_now X (below_next hH.2 (below_new _ (.cells #[.int .i64 0, .int .i64 0, .bool false, .int .i64 0, .int .i64 0, .bool false, .nilFunc] 80)))) (fun hH2 => ?_)
            have le6 : u2.heap.size ≤ W28.heap.size := hH.2.size
            have ne76 : W2.heap.size ≠ W28.heap.size := Nat.ne_of_lt B7.lt
            replace B7 := B7.alloc (.cells #[.int .i64 0, .int .i64 0, .bool false, .int .i64 0, .int .i64 0, .bool false, .nilFunc] 80)
            have B6 := Blk.new W28 #[.int .i64 0, .int .i64 0, .bool false, .int .i64 0, .int .i64 0, .bool false, .nilFunc] 80
            clear hK K hH
            have hH := hH2; clear hH2
            generalize W28.alloc (.cells #[.int .i64 0, .int .i64 0, .bool false, .int .i64 0, .int .i64 0, .bool false, .nilFunc] 80) = W34 at *
            try simp only [Act.put, List.getElem_toArray, List.getElem_cons_succ, List.getElem_cons_zero, List.setIfInBounds_toArray, List.set_cons_zero, List.set_cons_succ]
            refine wpAnyH_ready (rs := [4]) (by kernel_rfl) (by simp) ?_
            refine AllReadyH.cons (o := _) rfl (fun K hK => ?_) (AllReadyH.nil)
            · skip
              go_simp
              (with_reducible refine (implShapeOf _ _ _ _ _ _ _ _ _ _).mono ?_)
              rintro r W35 ⟨rfl, qa⟩
              refine hK.out _ _ (keep1_later X hH qa) (fun hH2 => ?_)
              replace B7 := B7.later qa
              replace B6 := B6.later qa
              clear hK K hH qa
              have hH := hH2; clear hH2
              try simp only [Act.put, List.getElem_toArray, List.getElem_cons_succ, List.getElem_cons_zero, List.setIfInBounds_toArray, List.set_cons_zero, List.set_cons_succ]
              refine wpAnyH_ready (rs := [5]) (by kernel_rfl) (by simp) ?_
              refine AllReadyH.cons (o := _) rfl (fun K hK => ?_) (AllReadyH.nil)
              · skip
                go_simp
                (with_reducible refine (impl_mirrorGaps _ _ _ _).mono ?_)
                rintro r W36 ⟨rfl, qa⟩
                refine hK.out _ _ (keep1_later X hH qa) (fun hH2 => ?_)
                replace B7 := B7.later qa
                replace B6 := B6.later qa
                clear hK K hH qa
                have hH := hH2; clear hH2
                try simp only [Act.put, List.getElem_toArray, List.getElem_cons_succ, List.getElem_cons_zero, List.setIfInBounds_toArray, List.set_cons_zero, List.set_cons_succ]
                have n67 : W28.heap.size ≠ W2.heap.size := Ne.symm ne76
                refine wpAnyH_ready (rs := [8]) (by kernel_rfl) (by simp) ?_
                refine AllReadyH.cons (o := _) rfl (fun K hK => ?_) AllReadyH.nil
                obtain ⟨sc, sf⟩ := B6.open
                go_simp
                refine hK.out _ _ (keep1_now X (below_set7 hH.2 le6)) (fun hH2 => ?_)
                clear sc sf
                have C6 := (fun x0 x1 x2 x3 x4 x5 x6 => blk_store7 (x0 := x0) (x1 := x1) (x2 := x2) (x3 := x3) (x4 := x4) (x5 := x5) (x6 := x6) B6) (.int .i64 wd) (.int .i64 hi) (.bool wb) (.int .i64 wd) (.int .i64 hi) (.bool wb) (.func (.func 111) #[.agg #[.int .i64 wd, .int .i64 hi, .bool wb]] #[])
                replace B7 := (fun x0 x1 x2 x3 x4 x5 x6 => blk_other7 (x0 := x0) (x1 := x1) (x2 := x2) (x3 := x3) (x4 := x4) (x5 := x5) (x6 := x6) B7 (Ne.symm n67)) (.int .i64 wd) (.int .i64 hi) (.bool wb) (.int .i64 wd) (.int .i64 hi) (.bool wb) (.func (.func 111) #[.agg #[.int .i64 wd, .int .i64 hi, .bool wb]] #[])
                replace B6 := C6; clear C6
                clear hK K hH
                have hH := hH2; clear hH2
                generalize (((((((W36.setCell ⟨W28.heap.size, 0, none⟩ (.int .i64 wd)).setCell ⟨W28.heap.size, 1, none⟩ (.int .i64 hi)).setCell ⟨W28.heap.size, 2, none⟩ (.bool wb)).setCell ⟨W28.heap.size, 3, none⟩ (.int .i64 wd)).setCell ⟨W28.heap.size, 4, none⟩ (.int .i64 hi)).setCell ⟨W28.heap.size, 5, none⟩ (.bool wb)).setCell ⟨W28.heap.size, 6, none⟩ (.func (.func 111) #[.agg #[.int .i64 wd, .int .i64 hi, .bool wb]] #[])) = W8 at *
                try simp only [Act.put, List.getElem_toArray, List.getElem_cons_succ, List.getElem_cons_zero, List.setIfInBounds_toArray, List.set_cons_zero, List.set_cons_succ]
                refine wpAnyH_ready (rs := [9]) (by kernel_rfl) (by simp) ?_
                refine AllReadyH.cons (o := _) rfl (fun K hK => ?_) AllReadyH.nil
                obtain ⟨sc, sf⟩ := B7.open
                go_simp
                refine hK.out _ _ (keep1_now X (below_set7 hH.2 le7)) (fun hH2 => ?_)
                clear sc sf
                have C7 := (fun x0 x1 x2 x3 x4 x5 x6 => blk_store7 (x0 := x0) (x1 := x1) (x2 := x2) (x3 := x3) (x4 := x4) (x5 := x5) (x6 := x6) B7) (.int .i64 wd) (.int .i64 hi) (.bool wb) (.int .i64 wd) (.int .i64 hi) (.bool wb) (.func (.func 112) #[.agg #[.int .i64 wd, .int .i64 hi, .bool wb]] #[])
                replace B6 := (fun x0 x1 x2 x3 x4 x5 x6 => blk_other7 (x0 := x0) (x1 := x1) (x2 := x2) (x3 := x3) (x4 := x4) (x5 := x5) (x6 := x6) B6 n67) (.int .i64 wd) (.int .i64 hi) (.bool wb) (.int .i64 wd) (.int .i64 hi) (.bool wb) (.func (.func 112) #[.agg #[.int .i64 wd, .int .i64 hi, .bool wb]] #[])
                replace B7 := C7; clear C7
                clear hK K hH
                have hH := hH2; clear hH2
                generalize (((((((W8.setCell ⟨W2.heap.size, 0, none⟩ (.int .i64 wd)).setCell ⟨W2.heap.size, 1, none⟩ (.int .i64 hi)).setCell ⟨W2.heap.size, 2, none⟩ (.bool wb)).setCell ⟨W2.heap.size, 3, none⟩ (.int .i64 wd)).setCell ⟨W2.heap.size, 4, none⟩ (.int .i64 hi)).setCell ⟨W2.heap.size, 5, none⟩ (.bool wb)).setCell ⟨W2.heap.size, 6, none⟩ (.func (.func 112) #[.agg #[.int .i64 wd, .int .i64 hi, .bool wb]] #[])) = W9 at *
                try simp only [Act.put, List.getElem_toArray, List.getElem_cons_succ, List.getElem_cons_zero, List.setIfInBounds_toArray, List.set_cons_zero, List.set_cons_succ]
                refine wpAnyH_done (by kernel_rfl) ?_ _
                go_wp2
                go_meet
                case rel => exact ⟨_, _, rfl, rfl, B6, B7, le6, le7, hH.2⟩
      · skip
        go_simp
        refine hK.out _ _ (keep1_now X (below_next hH.2 (below_new _ (.cells #[.int .i64 0, .int .i64 0, .bool false, .int .i64 0, .int .i64 0, .bool false, .nilFunc] 80)))) (fun hH2 => ?_)
        have le6 : u2.heap.size ≤ W1.heap.size := hH.2.size
        have B6 := Blk.new W1 #[.int .i64 0, .int .i64 0, .bool false, .int .i64 0, .int .i64 0, .bool false, .nilFunc] 80
        clear hK K hH
        have hH := hH2; clear hH2
        generalize W1.alloc (.cells #[.int .i64 0, .int .i64 0, .bool false, .int .i64 0, .int .i64 0, .bool false, .nilFunc] 80) = W37 at *
        try simp only [Act.put, List.getElem_toArray, List.getElem_cons_succ, List.getElem_cons_zero, List.setIfInBounds_toArray, List.set_cons_zero, List.set_cons_succ]
        refine wpAnyH_ready (rs := [2, 7]) (by kernel_rfl) (by simp) ?_
        refine AllReadyH.cons (o := _) rfl (fun K hK => ?_) (AllReadyH.cons (o := _) rfl (fun K hK => ?_) (AllReadyH.nil))
        · skip
          go_simp
          (with_reducible refine (impl_mirrorCells _ _ _ _).mono ?_)
          rintro r W38 ⟨rfl, qa⟩
          refine hK.out _ _ (keep1_later X hH qa) (fun hH2 => ?_)
          replace B6 := B6.later qa
          clear hK K hH qa
          have hH := hH2; clear hH2
          try simp only [Act.put, List.getElem_toArray, List.getElem_cons_succ, List.getElem_cons_zero, List.setIfInBounds_toArray, List.set_cons_zero, List.set_cons_succ]
          refine wpAnyH_ready (rs := [4, 7]) (by kernel_rfl) (by simp) ?_
          refine AllReadyH.cons (o := _) rfl (fun K hK => ?_) (AllReadyH.cons (o := _) rfl (fun K hK => ?_) (AllReadyH.nil))
          · skip
            go_simp
            (with_reducible refine (implShapeOf _ _ _ _ _ _ _ _ _ _).mono ?_)
            rintro r W39 ⟨rfl, qa⟩
            refine hK.out _ _ (keep1_later X hH qa) (fun hH2 => ?_)
            replace B6 := B6.later qa
            clear hK K hH qa
            have hH := hH2; clear hH2
            try simp only [Act.put, List.getElem_toArray, List.getElem_cons_succ, List.getElem_cons_zero, List.setIfInBounds_toArray, List.set_cons_zero, List.set_cons_succ]
            refine wpAnyH_ready (rs := [5, 7]) (by kernel_rfl) (by simp) ?_
            refine AllReadyH.cons (o := _) rfl (fun K hK => ?_) (AllReadyH.cons (o := _) rfl (fun K hK => ?_) (AllReadyH.nil))
            · skip
              go_simp
              (with_reducible refine (impl_mirrorGaps _ _ _ _).mono ?_)
              rintro r W40 ⟨rfl, qa⟩
              refine hK.out _ _ (keep1_later X hH qa) (fun hH2 => ?_)
              replace B6 := B6.later qa
              clear hK K hH qa
              have hH := hH2; clear hH2
              try simp only [Act.put, List.getElem_toArray, List.getElem_cons_succ, List.getElem_cons_zero, List.setIfInBounds_toArray, List.set_cons_zero, List.set_cons_succ]
              refine wpAnyH_ready (rs := [7]) (by kernel_rfl) (by simp) ?_
              refine AllReadyH.cons (o := _) rfl (fun K hK => ?_) (AllReadyH.nil)
              · skip
                go_simp
                refine hK.out _ _ (keep1_now X (below_next hH.2 (below_new _ (.cells #[.int .i64 0, .int .i64 0, .bool false, .int .i64 0, .int .i64 0, .bool false, .nilFunc] 80)))) (fun hH2 => ?_)
                have le7 : u2.heap.size ≤ W40.heap.size := hH.2.size
                have ne67 : W1.heap.size ≠ W40.heap.size := Nat.ne_of_lt B6.lt
                replace B6 := B6.alloc (.cells #[.int .i64 0, .int .i64 0, .bool false, .int .i64 0, .int .i64 0, .bool false, .nilFunc] 80)
                have B7 := Blk.new W40 #[.int .i64 0, .int .i64 0, .bool false, .int .i64 0, .int .i64 0, .bool false, .nilFunc] 80
                clear hK K hH
                have hH := hH2; clear hH2
                generalize W40.alloc (.cells #[.int .i64 0, .int .i64 0, .bool false, .int .i64 0, .int .i64 0, .bool false, .nilFunc] 80) = W41 at *
                try simp only [Act.put, List.getElem_toArray, List.getElem_cons_succ, List.getElem_cons_zero, List.setIfInBounds_toArray, List.set_cons_zero, List.set_cons_succ]
                have n67 : W1.heap.size ≠ W40.heap.size := ne67
                refine wpAnyH_ready (rs := [8]) (by kernel_rfl) (by simp) ?_
                refine AllReadyH.cons (o := _) rfl (fun K hK => ?_) AllReadyH.nil
                obtain ⟨sc, sf⟩ := B6.open
                go_simp
                refine hK.out _ _ (keep1_now X (below_set7 hH.2 le6)) (fun hH2 => ?_)
                clear sc sf
                have C6 := (fun x0 x1 x2 x3 x4 x5 x6 => blk_store7 (x0 := x0) (x1 := x1) (x2 := x2) (x3 := x3) (x4 := x4) (x5 := x5) (x6 := x6) B6) (.int .i64 wd) (.int .i64 hi) (.bool wb) (.int .i64 wd) (.int .i64 hi) (.bool wb) (.func (.func 111) #[.agg #[.int .i64 wd, .int .i64 hi, .bool wb]] #[])
                replace B7 := (fun x0 x1 x2 x3 x4 x5 x6 => blk_other7 (x0 := x0) (x1 := x1) (x2 := x2) (x3 := x3) (x4 := x4) (x5 := x5) (x6 := x6) B7 (Ne.symm n67)) (.int .i64 wd) (.int .i64 hi) (.bool wb) (.int .i64 wd) (.int .i64 hi) (.bool wb) (.func (.func 111) #[.agg #[.int .i64 wd, .int .i64 hi, .bool wb]] #[])
                replace B6 := C6; clear C6
                clear hK K hH
                have hH := hH2; clear hH2
                generalize (((((((W41.setCell ⟨W1.heap.size, 0, none⟩ (.int .i64 wd)).setCell ⟨W1.heap.size, 1, none⟩ (.int .i64 hi)).setCell ⟨W1.heap.size, 2, none⟩ (.bool wb)).setCell ⟨W1.heap.size, 3, none⟩ (.int .i64 wd)).setCell ⟨W1.heap.size, 4, none⟩ (.int .i64 hi)).setCell ⟨W1.heap.size, 5, none⟩ (.bool wb)).setCell ⟨W1.heap.size, 6, none⟩ (.func (.func 111) #[.agg #[.int .i64 wd, .int .i64 hi, .bool wb]] #[])) = W8 at *
                try simp only [Act.put, List.getElem_toArray, List.getElem_cons_succ, List.getElem_cons_zero, List.setIfInBounds_toArray, List.set_cons_zero, List.set_cons_succ]
                refine wpAnyH_ready (rs := [9]) (by kernel_rfl) (by simp) ?_
                refine AllReadyH.cons (o := _) rfl (fun K hK => ?_) AllReadyH.nil
                obtain ⟨sc, sf⟩ := B7.open
                go_simp
                refine hK.out _ _ (keep1_now X (below_set7 hH.2 le7)) (fun hH2 => ?_)
                clear sc sf
                have C7 := (fun x0 x1 x2 x3 x4 x5 x6 => blk_store7 (x0 := x0) (x1 := x1) (x2 := x2) (x3 := x3) (x4 := x4) (x5 := x5) (x6 := x6) B7) (.int .i64 wd) (.int .i64 hi) (.bool wb) (.int .i64 wd) (.int .i64 hi) (.bool wb) (.func (.func 112) #[.agg #[.int .i64 wd, .int .i64 hi, .bool wb]] #[])
                replace B6 := (fun x0 x1 x2 x3 x4 x5 x6 => blk_other7 (x0 := x0) (x1 := x1) (x2 := x2) (x3 := x3) (x4 := x4) (x5 := x5) (x6 := x6) B6 n67) (.int .i64 wd) (.int .i64 hi) (.bool wb) (.int .i64 wd) (.int .i64 hi) (.bool wb) (.func (.func 112) #[.agg #[.int .i64 wd, .int .i64 hi, .bool wb]] #[])
                replace B7 := C7; clear C7
                clear hK K hH
                have hH := hH2; clear hH2
                generalize (((((((W8.setCell ⟨W40.heap.size, 0, none⟩ (.int .i64 wd)).setCell ⟨W40.heap.size, 1, none⟩ (.int .i64 hi)).setCell ⟨W40.heap.size, 2, none⟩ (.bool wb)).setCell ⟨W40.heap.size, 3, none⟩ (.int .i64 wd)).setCell ⟨W40.heap.size, 4, none⟩ (.int .i64 hi)).setCell ⟨W40.heap.size, 5, none⟩ (.bool wb)).setCell ⟨W40.heap.size, 6, none⟩ (.func (.func 112) #[.agg #[.int .i64 wd, .int .i64 hi, .bool wb]] #[])) = W9 at *
                try simp only [Act.put, List.getElem_toArray, List.getElem_cons_succ, List.getElem_cons_zero, List.setIfInBounds_toArray, List.set_cons_zero, List.set_cons_succ]
                refine wpAnyH_done (by kernel_rfl) ?_ _
                go_wp2
                go_meet
                case rel => exact ⟨_, _, rfl, rfl, B6, B7, le6, le7, hH.2⟩
            · skip
              go_simp
              refine hK.out _ _ (keep1_now X (below_next hH.2 (below_new _ (.cells #[.int .i64 0, .int .i64 0, .bool false, .int .i64 0, .int .i64 0, .bool false, .nilFunc] 80)))) (fun hH2 => ?_)
              have le7 : u2.heap.size ≤ W39.heap.size := hH.2.size
              have ne67 : W1.heap.size ≠ W39.heap.size := Nat.ne_of_lt B6.lt
              replace B6 := B6.alloc (.cells #[.int .i64 0, .int .i64 0, .bool false, .int .i64 0, .int .i64 0, .bool false, .nilFunc] 80)
              have B7 := Blk.new W39 #[.int .i64 0, .int .i64 0, .bool false, .int .i64 0, .int .i64 0, .bool false, .nilFunc] 80
              clear hK K hH
              have hH := hH2; clear hH2
              generalize W39.alloc (.cells #[.int .i64 0, .int .i64 0, .bool false, .int .i64 0, .int .i64 0, .bool false, .nilFunc] 80) = W42 at *
              try simp only [Act.put, List.getElem_toArray, List.getElem_cons_succ, List.getElem_cons_zero, List.setIfInBounds_toArray, List.set_cons_zero, List.set_cons_succ]
              refine wpAnyH_ready (rs := [5]) (by kernel_rfl) (by simp) ?_
              refine AllReadyH.cons (o := _) rfl (fun K hK => ?_) (AllReadyH.nil)
              · skip
                go_simp
                (with_reducible refine (impl_mirrorGaps _ _ _ _).mono ?_)
                rintro r W43 ⟨rfl, qa⟩
                refine hK.out _ _ (keep1_later X hH qa) (fun hH2 => ?_)
                replace B6 := B6.later qa
                replace B7 := B7.later qa
                clear hK K hH qa
                have hH := hH2; clear hH2
                try simp only [Act.put, List.getElem_toArray, List.getElem_cons_succ, List.getElem_cons_zero, List.setIfInBounds_toArray, List.set_cons_zero, List.set_cons_succ]
                have n67 : W1.heap.size ≠ W39.heap.size := ne67
                refine wpAnyH_ready (rs := [8]) (by kernel_rfl) (by simp) ?_
                refine AllReadyH.cons (o := _) rfl (fun K hK => ?_) AllReadyH.nil
                obtain ⟨sc, sf⟩ := B6.open
                go_simp
                refine hK.out _ _ (keep1_now X (below_set7 hH.2 le6)) (fun hH2 => ?_)
                clear sc sf
                have C6 := (fun x0 x1 x2 x3 x4 x5 x6 => blk_store7 (x0 := x0) (x1 := x1) (x2 := x2) (x3 := x3) (x4 := x4) (x5 := x5) (x6 := x6) B6) (.int .i64 wd) (.int .i64 hi) (.bool wb) (.int .i64 wd) (.int .i64 hi) (.bool wb) (.func (.func 111) #[.agg #[.int .i64 wd, .int .i64 hi, .bool wb]] #[])
                replace B7 := (fun x0 x1 x2 x3 x4 x5 x6 => blk_other7 (x0 := x0) (x1 := x1) (x2 := x2) (x3 := x3) (x4 := x4) (x5 := x5) (x6 := x6) B7 (Ne.symm n67)) (.int .i64 wd) (.int .i64 hi) (.bool wb) (.int .i64 wd) (.int .i64 hi) (.bool wb) (.func (.func 111) #[.agg #[.int .i64 wd, .int .i64 hi, .bool wb]] #[])
                replace B6 := C6; clear C6
                clear hK K hH
                have hH := hH2; clear hH2
                generalize (((((((W43.setCell ⟨W1.heap.size, 0, none⟩ (.int .i64 wd)).setCell ⟨W1.heap.size, 1, none⟩ (.int .i64 hi)).setCell ⟨W1.heap.size, 2, none⟩ (.bool wb)).setCell ⟨W1.heap.size, 3, none⟩ (.int .i64 wd)).setCell ⟨W1.heap.size, 4, none⟩ (.int .i64 hi)).setCell ⟨W1.heap.size, 5, none⟩ (.bool wb)).setCell ⟨W1.heap.size, 6, none⟩ (.func (.func 111) #[.agg #[.int .i64 wd, .int .i64 hi, .bool wb]] #[])) = W8 at *
                try simp only [Act.put, List.getElem_toArray, List.getElem_cons_succ, List.getElem_cons_zero, List.setIfInBounds_toArray, List.set_cons_zero, List.set_cons_succ]
                refine wpAnyH_ready (rs := [9]) (by kernel_rfl) (by simp) ?_
                refine AllReadyH.cons (o := _) rfl (fun K hK => ?_) AllReadyH.nil
                obtain ⟨sc, sf⟩ := B7.open
                go_simp
                refine hK.out _ _ (keep1_now X (below_set7 hH.2 le7)) (fun hH2 => ?_)
                clear sc sf
                have C7 := (fun x0 x1 x2 x3 x4 x5 x6 => blk_store7 (x0 := x0) (x1 := x1) (x2 := x2) (x3 := x3) (x4 := x4) (x5 := x5) (x6 := x6) B7) (.int .i64 wd) (.int .i64 hi) (.bool wb) (.int .i64 wd) (.int .i64 hi) (.bool wb) (.func (.func 112) #[.agg #[.int .i64 wd, .int .i64 hi, .bool wb]] #[])
                replace B6 := (fun x0 x1 x2 x3 x4 x5 x6 => blk_other7 (x0 := x0) (x1 := x1) (x2 := x2) (x3 := x3) (x4 := x4) (x5 := x5) (x6 := x6) B6 n67) (.int .i64 wd) (.int .i64 hi) (.bool wb) (.int .i64 wd) (.int .i64 hi) (.bool wb) (.func (.func 112) #[.agg #[.int .i64 wd, .int .i64 hi, .bool wb]] #[])
                replace B7 := C7; clear C7
                clear hK K hH
                have hH := hH2; clear hH2
                generalize (((((((W8.setCell ⟨W39.heap.size, 0, none⟩ (.int .i64 wd)).setCell ⟨W39.heap.size, 1, none⟩ (.int .i64 hi)).setCell ⟨W39.heap.size, 2, none⟩ (.bool wb)).setCell ⟨W39.heap.size, 3, none⟩ (.int .i64 wd)).setCell ⟨W39.heap.size, 4, none⟩ (.int .i64 hi)).setCell ⟨W39.heap.size, 5, none⟩ (.bool wb)).setCell ⟨W39.heap.size, 6, none⟩ (.func (.func 112) #[.agg #[.int .i64 wd, .int .i64 hi, .bool wb]] #[])) = W9 at *
                try simp only [Act.put, List.getElem_toArray, List.getElem_cons_succ, List.getElem_cons_zero, List.setIfInBounds_toArray, List.set_cons_zero, List.set_cons_succ]
                refine wpAnyH_done (by kernel_rfl) ?_ _
                go_wp2
                go_meet
                case rel => exact ⟨_, _, rfl, rfl, B6, B7, le6, le7, hH.2⟩
          · skip
            go_simp
            refine hK.out _ _ (keep1_now X (below_next hH.2 (below_new _ (.cells #[.int .i64 0, .int .i64 0, .bool false, .int .i64 0, .int .i64 0, .bool false, .nilFunc] 80)))) (fun hH2 => ?_)
            have le7 : u2.heap.size ≤ W38.heap.size := hH.2.size
            have ne67 : W1.heap.size ≠ W38.heap.size := Nat.ne_of_lt B6.lt
            replace B6 := B6.alloc (.cells #[.int .i64 0, .int .i64 0, .bool false, .int .i64 0, .int .i64 0, .bool false, .nilFunc] 80)
            have B7 := Blk.new W38 #[.int .i64 0, .int .i64 0, .bool false, .int .i64 0, .int .i64 0, .bool false, .nilFunc] 80
            clear hK K hH
            have hH := hH2; clear hH2
            generalize W38.alloc (.cells #[.int .i64 0, .int .i64 0, .bool false, .int .i64 0, .int .i64 0, .bool false, .nilFunc] 80) = W44 at *
            try simp only [Act.put, List.getElem_toArray, List.getElem_cons_succ, List.getElem_cons_zero, List.setIfInBounds_toArray, List.set_cons_zero, List.set_cons_succ]
            refine wpAnyH_ready (rs := [4]) (by kernel_rfl) (by simp) ?_
            refine AllReadyH.cons (o := _) rfl (fun K hK => ?_) (AllReadyH.nil)
            · skip
              go_simp
              (with_reducible refine (implShapeOf _ _ _ _ _ _ _ _ _ _).mono ?_)
              rintro r W45 ⟨rfl, qa⟩
              refine hK.out _ _ (keep1_later X hH qa) (fun hH2 => ?_)
              replace B6 := B6.later qa
              replace B7 := B7.later qa
              clear hK K hH qa
              have hH := hH2; clear hH2
              try simp only [Act.put, List.getElem_toArray, List.getElem_cons_succ, List.getElem_cons_zero, List.setIfInBounds_toArray, List.set_cons_zero, List.set_cons_succ]
              refine wpAnyH_ready (rs := [5]) (by kernel_rfl) (by simp) ?_
              refine AllReadyH.cons (o := _) rfl (fun K hK => ?_) (AllReadyH.nil)
              · skip
                go_simp
                (with_reducible refine (impl_mirrorGaps _ _ _ _).mono ?_)
                rintro r W46 ⟨rfl, qa⟩
                refine hK.out _ _ (keep1_later X hH qa) (fun hH2 => ?_)
                replace B6 := B6.later qa
                replace B7 := B7.later qa
                clear hK K hH qa
                have hH := hH2; clear hH2
                try simp only [Act.put, List.getElem_toArray, List.getElem_cons_succ, List.getElem_cons_zero, List.setIfInBounds_toArray, List.set_cons_zero, List.set_cons_succ]
                have n67 : W1.heap.size ≠ W38.heap.size := ne67
                refine wpAnyH_ready (rs := [8]) (by kernel_rfl) (by simp) ?_
                refine AllReadyH.cons (o := _) rfl (fun K hK => ?_) AllReadyH.nil
                obtain ⟨sc, sf⟩ := B6.open
                go_simp
                refine hK.out _ _ (keep1_now X (below_set7 hH.2 le6)) (fun hH2 => ?_)
                clear sc sf
                have C6 := (fun x0 x1 x2 x3 x4 x5 x6 => blk_store7 (x0 := x0) (x1 := x1) (x2 := x2) (x3 := x3) (x4 := x4) (x5 := x5) (x6 := x6) B6) (.int .i64 wd) (.int .i64 hi) (.bool wb) (.int .i64 wd) (.int .i64 hi) (.bool wb) (.func (.func 111) #[.agg #[.int .i64 wd, .int .i64 hi, .bool wb]] #[])
                replace B7 := (fun x0 x1 x2 x3 x4 x5 x6 => blk_other7 (x0 := x0) (x1 := x1) (x2 := x2) (x3 := x3) (x4 := x4) (x5 := x5) (x6 := x6) B7 (Ne.symm n67)) (.int .i64 wd) (.int .i64 hi) (.bool wb) (.int .i64 wd) (.int .i64 hi) (.bool wb) (.func (.func 111) #[.agg #[.int .i64 wd, .int .i64 hi, .bool wb]] #[])
                replace B6 := C6; clear C6
                clear hK K hH
                have hH := hH2; clear hH2
                generalize (((((((W46.setCell ⟨W1.heap.size, 0, none⟩ (.int .i64 wd)).setCell ⟨W1.heap.size, 1, none⟩ (.int .i64 hi)).setCell ⟨W1.heap.size, 2, none⟩ (.bool wb)).setCell ⟨W1.heap.size, 3, none⟩ (.int .i64 wd)).setCell ⟨W1.heap.size, 4, none⟩ (.int .i64 hi)).setCell ⟨W1.heap.size, 5, none⟩ (.bool wb)).setCell ⟨W1.heap.size, 6, none⟩ (.func (.func 111) #[.agg #[.int .i64 wd, .int .i64 hi, .bool wb]] #[])) = W8 at *
                try simp only [Act.put, List.getElem_toArray, List.getElem_cons_succ, List.getElem_cons_zero, List.setIfInBounds_toArray, List.set_cons_zero, List.set_cons_succ]
                refine wpAnyH_ready (rs := [9]) (by kernel_rfl) (by simp) ?_
                refine AllReadyH.cons (o := _) rfl (fun K hK => ?_) AllReadyH.nil
                obtain ⟨sc, sf⟩ := B7.open
                go_simp
                refine hK.out _ _ (keep1_now X (below_set7 hH.2 le7)) (fun hH2 => ?_)
                clear sc sf
                have C7 := (fun x0 x1 x2 x3 x4 x5 x6 => blk_store7 (x0 := x0) (x1 := x1) (x2 := x2) (x3 := x3) (x4 := x4) (x5 := x5) (x6 := x6) B7) (.int .i64 wd) (.int .i64 hi) (.bool wb) (.int .i64 wd) (.int .i64 hi) (.bool wb) (.func (.func 112) #[.agg #[.int .i64 wd, .int .i64 hi, .bool wb]] #[])
                replace B6 := (fun x0 x1 x2 x3 x4 x5 x6 => blk_other7 (x0 := x0) (x1 := x1) (x2 := x2) (x3 := x3) (x4 := x4) (x5 := x5) (x6 := x6) B6 n67) (.int .i64 wd) (.int .i64 hi) (.bool wb) (.int .i64 wd) (.int .i64 hi) (.bool wb) (.func (.func 112) #[.agg #[.int .i64 wd, .int .i64 hi, .bool wb]] #[])
                replace B7 := C7; clear C7
                clear hK K hH
                have hH := hH2; clear hH2
                generalize (((((((W8.setCell ⟨W38.heap.size, 0, none⟩ (.int .i64 wd)).setCell ⟨W38.heap.size, 1, none⟩ (.int .i64 hi)).setCell ⟨W38.heap.size, 2, none⟩ (.bool wb)).setCell ⟨W38.heap.size, 3, none⟩ (.int .i64 wd)).setCell ⟨W38.heap.size, 4, none⟩ (.int .i64 hi)).setCell ⟨W38.heap.size, 5, none⟩ (.bool wb)).setCell ⟨W38.heap.size, 6, none⟩ (.func (.func 112) #[.agg #[.int .i64 wd, .int .i64 hi, .bool wb]] #[])) = W9 at *
                try simp only [Act.put, List.getElem_toArray, List.getElem_cons_succ, List.getElem_cons_zero, List.setIfInBounds_toArray, List.set_cons_zero, List.set_cons_succ]
                refine wpAnyH_done (by kernel_rfl) ?_ _
                go_wp2
                go_meet
                case rel => exact ⟨_, _, rfl, rfl, B6, B7, le6, le7, hH.2⟩
        · skip
          go_simp
          refine hK.out _ _ (keep1_now X (below_next hH.2 (below_new _ (.cells #[.int .i64 0, .int .i64 0, .bool false, .int .i64 0, .int .i64 0, .bool false, .nilFunc] 80)))) (fun hH2 => ?_)
          have le7 : u2.heap.size ≤ W37.heap.size := hH.2.size
          have ne67 : W1.heap.size ≠ W37.heap.size := Nat.ne_of_lt B6.lt
          replace B6 := B6.alloc (.cells #[.int .i64 0, .int .i64 0, .bool false, .int .i64 0, .int .i64 0, .bool false, .nilFunc] 80)
          have B7 := Blk.new W37 #[.int .i64 0, .int .i64 0, .bool false, .int .i64 0, .int .i64 0, .bool false, .nilFunc] 80
          clear hK K hH
          have hH := hH2; clear hH2
          generalize W37.alloc (.cells #[.int .i64 0, .int .i64 0, .bool false, .int .i64 0, .int .i64 0, .bool false, .nilFunc] 80) = W47 at *
          try simp only [Act.put, List.getElem_toArray, List.getElem_cons_succ, List.getElem_cons_zero, List.setIfInBounds_toArray, List.set_cons_zero, List.set_cons_succ]
          refine wpAnyH_ready (rs := [2]) (by kernel_rfl) (by simp) ?_
          refine AllReadyH.cons (o := _) rfl (fun K hK => ?_) (AllReadyH.nil)
          · skip
            go_simp
            (with_reducible refine (impl_mirrorCells _ _ _ _).mono ?_)
            rintro r W48 ⟨rfl, qa⟩
            refine hK.out _ _ (keep1_later X hH qa) (fun hH2 => ?_)
            replace B6 := B6.later qa
            replace B7 := B7.later qa
            clear hK K hH qa
            have hH := hH2; clear hH2
            try simp only [Act.put, List.getElem_toArray, List.getElem_cons_succ, List.getElem_cons_zero, List.setIfInBounds_toArray, List.set_cons_zero, List.set_cons_succ]
            refine wpAnyH_ready (rs := [4]) (by kernel_rfl) (by simp) ?_
            refine AllReadyH.cons (o := _) rfl (fun K hK => ?_) (AllReadyH.nil)
            · skip
              go_simp
              (with_reducible refine (implShapeOf _ _ _ _ _ _ _ _ _ _).mono ?_)
              rintro r W49 ⟨rfl, qa⟩
              refine hK.out _ _ (keep1_later X hH qa) (fun hH2 => ?_)
              replace B6 := B6.later qa
              replace B7 := B7.later qa
              clear hK K hH qa
              have hH := hH2; clear hH2
              try simp only [Act.put, List.getElem_toArray, List.getElem_cons_succ, List.getElem_cons_zero, List.setIfInBounds_toArray, List.set_cons_zero, List.set_cons_succ]
              refine wpAnyH_ready (rs := [5]) (by kernel_rfl) (by simp) ?_
              refine AllReadyH.cons (o := _) rfl (fun K hK => ?_) (AllReadyH.nil)
              · skip
                go_simp
                (with_reducible refine (impl_mirrorGaps _ _ _ _).mono ?_)
                rintro r W50 ⟨rfl, qa⟩
                refine hK.out _ _ (keep1_later X hH qa) (fun hH2 => ?_)
                replace B6 := B6.later qa
                replace B7 := B7.later qa
                clear hK K hH qa
                have hH := hH2; clear hH2
                try simp only [Act.put, List.getElem_toArray, List.getElem_cons_succ, List.getElem_cons_zero, List.setIfInBounds_toArray, List.set_cons_zero, List.set_cons_succ]
                have n67 : W1.heap.size ≠ W37.heap.size := ne67
                refine wpAnyH_ready (rs := [8]) (by kernel_rfl) (by simp) ?_
                refine AllReadyH.cons (o := _) rfl (fun K hK => ?_) AllReadyH.nil
                obtain ⟨sc, sf⟩ := B6.open
                go_simp
                refine hK.out _ _ (keep1_now X (below_set7 hH.2 le6)) (fun hH2 => ?_)
                clear sc sf
                have C6 := (fun x0 x1 x2 x3 x4 x5 x6 => blk_store7 (x0 := x0) (x1 := x1) (x2 := x2) (x3 := x3) (x4 := x4) (x5 := x5) (x6 := x6) B6) (.int .i64 wd) (.int .i64 hi) (.bool wb) (.int .i64 wd) (.int .i64 hi) (.bool wb) (.func (.func 111) #[.agg #[.int .i64 wd, .int .i64 hi, .bool wb]] #[])
                replace B7 := (fun x0 x1 x2 x3 x4 x5 x6 => blk_other7 (x0 := x0) (x1 := x1) (x2 := x2) (x3 := x3) (x4 := x4) (x5 := x5) (x6 := x6) B7 (Ne.symm n67)) (.int .i64 wd) (.int .i64 hi) (.bool wb) (.int .i64 wd) (.int .i64 hi) (.bool wb) (.func (.func 111) #[.agg #[.int .i64 wd, .int .i64 hi, .bool wb]] #[])
                replace B6 := C6; clear C6
                clear hK K hH
                have hH := hH2; clear hH2
                generalize (((((((W50.setCell ⟨W1.heap.size, 0, none⟩ (.int .i64 wd)).setCell ⟨W1.heap.size, 1, none⟩ (.int .i64 hi)).setCell ⟨W1.heap.size, 2, none⟩ (.bool wb)).setCell ⟨W1.heap.size, 3, none⟩ (.int .i64 wd)).setCell ⟨W1.heap.size, 4, none⟩ (.int .i64 hi)).setCell ⟨W1.heap.size, 5, none⟩ (.bool wb)).setCell ⟨W1.heap.size, 6, none⟩ (.func (.func 111) #[.agg #[.int .i64 wd, .int .i64 hi, .bool wb]] #[])) = W8 at *
                try simp only [Act.put, List.getElem_toArray, List.getElem_cons_succ, List.getElem_cons_zero, List.setIfInBounds_toArray, List.set_cons_zero, List.set_cons_succ]
                refine wpAnyH_ready (rs := [9]) (by kernel_rfl) (by simp) ?_
                refine AllReadyH.cons (o := _) rfl (fun K hK => ?_) AllReadyH.nil
                obtain ⟨sc, sf⟩ := B7.open
                go_simp
                refine hK.out _ _ (keep1_now X (below_set7 hH.2 le7)) (fun hH2 => ?_)
                clear sc sf
                have C7 := (fun x0 x1 x2 x3 x4 x5 x6 => blk_store7 (x0 := x0) (x1 := x1) (x2 := x2) (x3 := x3) (x4 := x4) (x5 := x5) (x6 := x6) B7) (.int .i64 wd) (.int .i64 hi) (.bool wb) (.int .i64 wd) (.int .i64 hi) (.bool wb) (.func (.func 112) #[.agg #[.int .i64 wd, .int .i64 hi, .bool wb]] #[])
                replace B6 := (fun x0 x1 x2 x3 x4 x5 x6 => blk_other7 (x0 := x0) (x1 := x1) (x2 := x2) (x3 := x3) (x4 := x4) (x5 := x5) (x6 := x6) B6 n67) (.int .i64 wd) (.int .i64 hi) (.bool wb) (.int .i64 wd) (.int .i64 hi) (.bool wb) (.func (.func 112) #[.agg #[.int .i64 wd, .int .i64 hi, .bool wb]] #[])
                replace B7 := C7; clear C7
                clear hK K hH
                have hH := hH2; clear hH2
                generalize (((((((W8.setCell ⟨W37.heap.size, 0, none⟩ (.int .i64 wd)).setCell ⟨W37.heap.size, 1, none⟩ (.int .i64 hi)).setCell ⟨W37.heap.size, 2, none⟩ (.bool wb)).setCell ⟨W37.heap.size, 3, none⟩ (.int .i64 wd)).setCell ⟨W37.heap.size, 4, none⟩ (.int .i64 hi)).setCell ⟨W37.heap.size, 5, none⟩ (.bool wb)).setCell ⟨W37.heap.size, 6, none⟩ (.func (.func 112) #[.agg #[.int .i64 wd, .int .i64 hi, .bool wb]] #[])) = W9 at *
                try simp only [Act.put, List.getElem_toArray, List.getElem_cons_succ, List.getElem_cons_zero, List.setIfInBounds_toArray, List.set_cons_zero, List.set_cons_succ]
                refine wpAnyH_done (by kernel_rfl) ?_ _
                go_wp2
                go_meet
                case rel => exact ⟨_, _, rfl, rfl, B6, B7, le6, le7, hH.2⟩
      · skip
        go_simp
        refine hK.out _ _ (keep1_now X (below_next hH.2 (below_new _ (.cells #[.int .i64 0, .int .i64 0, .bool false, .int .i64 0, .int .i64 0, .bool false, .nilFunc] 80)))) (fun hH2 => ?_)
        have le7 : u2.heap.size ≤ W1.heap.size := hH.2.size
        have B7 := Blk.new W1 #[.int .i64 0, .int .i64 0, .bool false, .int .i64 0, .int .i64 0, .bool false, .nilFunc] 80
        clear hK K hH
        have hH := hH2; clear hH2
        generalize W1.alloc (.cells #[.int .i64 0, .int .i64 0, .bool false, .int .i64 0, .int .i64 0, .bool false, .nilFunc] 80) = W51 at *
        try simp only [Act.put, List.getElem_toArray, List.getElem_cons_succ, List.getElem_cons_zero, List.setIfInBounds_toArray, List.set_cons_zero, List.set_cons_succ]
        refine wpAnyH_ready (rs := [2, 6]) (by kernel_rfl) (by simp) ?_
        refine AllReadyH.cons (o := _) rfl (fun K hK => ?_) (AllReadyH.cons (o := _) rfl (fun K hK => ?_) (AllReadyH.nil))
        · skip
          go_simp
          (with_reducible refine (impl_mirrorCells _ _ _ _).mono ?_)
          rintro r W52 ⟨rfl, qa⟩
          refine hK.out _ _ (keep1_later X hH qa) (fun hH2 => ?_)
          replace B7 := B7.later qa
          clear hK K hH qa
          have hH := hH2; clear hH2
          try simp only [Act.put, List.getElem_toArray, List.getElem_cons_succ, List.getElem_cons_zero, List.setIfInBounds_toArray, List.set_cons_zero, List.set_cons_succ]
          refine wpAnyH_ready (rs := [4, 6]) (by kernel_rfl) (by simp) ?_
          refine AllReadyH.cons (o := _) rfl (fun K hK => ?_) (AllReadyH.cons (o := _) rfl (fun K hK => ?_) (AllReadyH.nil))
          · skip
            go_simp
            (with_reducible refine (implShapeOf _ _ _ _ _ _ _ _ _ _).mono ?_)
            rintro r W53 ⟨rfl, qa⟩
            refine hK.out _ _ (keep1_later X hH qa) (fun hH2 => ?_)
            replace B7 := B7.later qa
            clear hK K hH qa
            have hH := hH2; clear hH2
            try simp only [Act.put, List.getElem_toArray, List.getElem_cons_succ, List.getElem_cons_zero, List.setIfInBounds_toArray, List.set_cons_zero, List.set_cons_succ]
            refine wpAnyH_ready (rs := [5, 6]) (by kernel_rfl) (by simp) ?_
            refine AllReadyH.cons (o := _) rfl (fun K hK => ?_) (AllReadyH.cons (o := _) rfl (fun K hK => ?_) (AllReadyH.nil))
            · skip
              go_simp
              (with_reducible refine (impl_mirrorGaps _ _ _ _).mono ?_)
              rintro r W54 ⟨rfl, qa⟩
              refine hK.out _ _ (keep1_later X hH qa) (fun hH2 => ?_)
              replace B7 := B7.later qa
              clear hK K hH qa
              have hH := hH2; clear hH2
              try simp only [Act.put, List.getElem_toArray, List.getElem_cons_succ, List.getElem_cons_zero, List.setIfInBounds_toArray, List.set_cons_zero, List.set_cons_succ]
              refine wpAnyH_ready (rs := [6]) (by kernel_rfl) (by simp) ?_
              refine AllReadyH.cons (o := _) rfl (fun K hK => ?_) (AllReadyH.nil)
              · skip
                go_simp
                refine hK.out _ _ (keep1_now X (below_next hH.2 (below_new _ (.cells #[.int .i64 0, .int .i64 0, .bool false, .int .i64 0, .int .i64 0, .bool false, .nilFunc] 80)))) (fun hH2 => ?_)
                have le6 : u2.heap.size ≤ W54.heap.size := hH.2.size
                have ne76 : W1.heap.size ≠ W54.heap.size := Nat.ne_of_lt B7.lt
                replace B7 := B7.alloc (.cells #[.int .i64 0, .int .i64 0, .bool false, .int .i64 0, .int .i64 0, .bool false, .nilFunc] 80)
                have B6 := Blk.new W54 #[.int .i64 0, .int .i64 0, .bool false, .int .i64 0, .int .i64 0, .bool false, .nilFunc] 80
                clear hK K hH
                have hH := hH2; clear hH2
                generalize W54.alloc (.cells #[.int .i64 0, .int .i64 0, .bool false, .int .i64 0, .int .i64 0, .bool false, .nilFunc] 80) = W55 at *
                try simp only [Act.put, List.getElem_toArray, List.getElem_cons_succ, List.getElem_cons_zero, List.setIfInBounds_toArray, List.set_cons_zero, List.set_cons_succ]
                have n67 : W54.heap.size ≠ W1.heap.size := Ne.symm ne76
                refine wpAnyH_ready (rs := [8]) (by kernel_rfl) (by simp) ?_
                refine AllReadyH.cons (o := _) rfl (fun K hK => ?_) AllReadyH.nil
                obtain ⟨sc, sf⟩ := B6.open
                go_simp
                refine hK.out _ _ (keep1_now X (below_set7 hH.2 le6)) (fun hH2 => ?_)
                clear sc sf
                have C6 := (fun x0 x1 x2 x3 x4 x5 x6 => blk_store7 (x0 := x0) (x1 := x1) (x2 := x2) (x3 := x3) (x4 := x4) (x5 := x5) (x6 := x6) B6) (.int .i64 wd) (.int .i64 hi) (.bool wb) (.int .i64 wd) (.int .i64 hi) (.bool wb) (.func (.func 111) #[.agg #[.int .i64 wd, .int .i64 hi, .bool wb]] #[])
                replace B7 := (fun x0 x1 x2 x3 x4 x5 x6 => blk_other7 (x0 := x0) (x1 := x1) (x2 := x2) (x3 := x3) (x4 := x4) (x5 := x5) (x6 := x6) B7 (Ne.symm n67)) (.int .i64 wd) (.int .i64 hi) (.bool wb) (.int .i64 wd) (.int .i64 hi) (.bool wb) (.func (.func 111) #[.agg #[.int .i64 wd, .int .i64 hi, .bool wb]] #[])
                replace B6 := C6; clear C6
                clear hK K hH
                have hH := hH2; clear hH2
                generalize (((((((W55.setCell ⟨W54.heap.size, 0, none⟩ (.int .i64 wd)).setCell ⟨W54.heap.size, 1, none⟩ (.int .i64 hi)).setCell ⟨W54.heap.size, 2, none⟩ (.bool wb)).setCell ⟨W54.heap.size, 3, none⟩ (.int .i64 wd)).setCell ⟨W54.heap.size, 4, none⟩ (.int .i64 hi)).setCell ⟨W54.heap.size, 5, none⟩ (.bool wb)).setCell ⟨W54.heap.size, 6, none⟩ (.func (.func 111) #[.agg #[.int .i64 wd, .int .i64 hi, .bool wb]] #[])) = W8 at *
                try simp only [Act.put, List.getElem_toArray, List.getElem_cons_succ, List.getElem_cons_zero, List.setIfInBounds_toArray, List.set_cons_zero, List.set_cons_succ]
                refine wpAnyH_ready (rs := [9]) (by kernel_rfl) (by simp) ?_
                refine AllReadyH.cons (o := _) rfl (fun K hK => ?_) AllReadyH.nil
                obtain ⟨sc, sf⟩ := B7.open
                go_simp
                refine hK.out _ _ (keep1_now X (below_set7 hH.2 le7)) (fun hH2 => ?_)
                clear sc sf
                have C7 := (fun x0 x1 x2 x3 x4 x5 x6 => blk_store7 (x0 := x0) (x1 := x1) (x2 := x2) (x3 := x3) (x4 := x4) (x5 := x5) (x6 := x6) B7) (.int .i64 wd) (.int .i64 hi) (.bool wb) (.int .i64 wd) (.int .i64 hi) (.bool wb) (.func (.func 112) #[.agg #[.int .i64 wd, .int .i64 hi, .bool wb]] #[])
                replace B6 := (fun x0 x1 x2 x3 x4 x5 x6 => blk_other7 (x0 := x0) (x1 := x1) (x2 := x2) (x3 := x3) (x4 := x4) (x5 := x5) (x6 := x6) B6 n67) (.int .i64 wd) (.int .i64 hi) (.bool wb) (.int .i64 wd) (.int .i64 hi) (.bool wb) (.func (.func 112) #[.agg #[.int .i64 wd, .int .i64 hi, .bool wb]] #[])
                replace B7 := C7; clear C7
                clear hK K hH
                have hH := hH2; clear hH2
                generalize (((((((W8.setCell ⟨W1.heap.size, 0, none⟩ (.int .i64 wd)).setCell ⟨W1.heap.size, 1, none⟩ (.int .i64 hi)).setCell ⟨W1.heap.size, 2, none⟩ (.bool wb)).setCell ⟨W1.heap.size, 3, none⟩ (.int .i64 wd)).setCell ⟨W1.heap.size, 4, none⟩ (.int .i64 hi)).setCell ⟨W1.heap.size, 5, none⟩ (.bool wb)).setCell ⟨W1.heap.size, 6, none⟩ (.func (.func 112) #[.agg #[.int .i64 wd, .int .i64 hi, .bool wb]] #[])) = W9 at *
                try simp only [Act.put, List.getElem_toArray, List.getElem_cons_succ, List.getElem_cons_zero, List.setIfInBounds_toArray, List.set_cons_zero, List.set_cons_succ]
                refine wpAnyH_done (by kernel_rfl) ?_ _
                go_wp2
                go_meet
                case rel => exact ⟨_, _, rfl, rfl, B6, B7, le6, le7, hH.2⟩
            · skip
              go_simp
              refine hK.out _ _ (keep1_now X (below_next hH.2 (below_new _ (.cells #[.int .i64 0, .int .i64 0, .bool false, .int .i64 0, .int .i64 0, .bool false, .nilFunc] 80)))) (fun hH2 => ?_)
              have le6 : u2.heap.size ≤ W53.heap.size := hH.2.size
              have ne76 : W1.heap.size ≠ W53.heap.size := Nat.ne_of_lt B7.lt
              replace B7 := B7.alloc (.cells #[.int .i64 0, .int .i64 0, .bool false, .int .i64 0, .int .i64 0, .bool false, .nilFunc] 80)
              have B6 := Blk.new W53 #[.int .i64 0, .int .i64 0, .bool false, .int .i64 0, .int .i64 0, .bool false, .nilFunc] 80
              clear hK K hH
              have hH := hH2; clear hH2
              generalize W53.alloc (.cells #[.int .i64 0, .int .i64 0, .bool false, .int .i64 0, .int .i64 0, .bool false, .nilFunc] 80) = W56 at *
              try simp only [Act.put, List.getElem_toArray, List.getElem_cons_succ, List.getElem_cons_zero, List.setIfInBounds_toArray, List.set_cons_zero, List.set_cons_succ]
              refine wpAnyH_ready (rs := [5]) (by kernel_rfl) (by simp) ?_
              refine AllReadyH.cons (o := _) rfl (fun K hK => ?_) (AllReadyH.nil)
              · skip
                go_simp
                (with_reducible refine (impl_mirrorGaps _ _ _ _).mono ?_)
                rintro r W57 ⟨rfl, qa⟩
                refine hK.out _ _ (keep1_later X hH qa) (fun hH2 => ?_)
                replace B7 := B7.later qa
                replace B6 := B6.later qa
                clear hK K hH qa
                have hH := hH2; clear hH2
                try simp only [Act.put, List.getElem_toArray, List.getElem_cons_succ, List.getElem_cons_zero, List.setIfInBounds_toArray, List.set_cons_zero, List.set_cons_succ]
                have n67 : W53.heap.size ≠ W1.heap.size := Ne.symm ne76
                refine wpAnyH_ready (rs := [8]) (by kernel_rfl) (by simp) ?_
                refine AllReadyH.cons (o := _) rfl (fun K hK => ?_) AllReadyH.nil
                obtain ⟨sc, sf⟩ := B6.open
                go_simp
                refine hK.out _ _ (keep1_now X (below_set7 hH.2 le6)) (fun hH2 => ?_)
                clear sc sf
                have C6 := (fun x0 x1 x2 x3 x4 x5 x6 => blk_store7 (x0 := x0) (x1 := x1) (x2 := x2) (x3 := x3) (x4 := x4) (x5 := x5) (x6 := x6) B6) (.int .i64 wd) (.int .i64 hi) (.bool wb) (.int .i64 wd) (.int .i64 hi) (.bool wb) (.func (.func 111) #[.agg #[.int .i64 wd, .int .i64 hi, .bool wb]] #[])
                replace B7 := (fun x0 x1 x2 x3 x4 x5 x6 => blk_other7 (x0 := x0) (x1 := x1) (x2 := x2) (x3 := x3) (x4 := x4) (x5 := x5) (x6 := x6) B7 (Ne.symm n67)) (.int .i64 wd) (.int .i64 hi) (.bool wb) (.int .i64 wd) (.int .i64 hi) (.bool wb) (.func (.func 111) #[.agg #[.int .i64 wd, .int .i64 hi, .bool wb]] #[])
                replace B6 := C6; clear C6
                clear hK K hH
                have hH := hH2; clear hH2
                generalize (((((((W57.setCell ⟨W53.heap.size, 0, none⟩ (.int .i64 wd)).setCell ⟨W53.heap.size, 1, none⟩ (.int .i64 hi)).setCell ⟨W53.heap.size, 2, none⟩ (.bool wb)).setCell ⟨W53.heap.size, 3, none⟩ (.int .i64 wd)).setCell ⟨W53.heap.size, 4, none⟩ (.int .i64 hi)).setCell ⟨W53.heap.size, 5, none⟩ (.bool wb)).setCell ⟨W53.heap.size, 6, none⟩ (.func (.func 111) #[.agg #[.int .i64 wd, .int .i64 hi, .bool wb]] #[])) = W8 at *
                try simp only [Act.put, List.getElem_toArray, List.getElem_cons_succ, List.getElem_cons_zero, List.setIfInBounds_toArray, List.set_cons_zero, List.set_cons_succ]
                refine wpAnyH_ready (rs := [9]) (by kernel_rfl) (by simp) ?_
                refine AllReadyH.cons (o := _) rfl (fun K hK => ?_) AllReadyH.nil
                obtain ⟨sc, sf⟩ := B7.open
                go_simp
                refine hK.out _ _ (keep1_now X (below_set7 hH.2 le7)) (fun hH2 => ?_)
                clear sc sf
                have C7 := (fun x0 x1 x2 x3 x4 x5 x6 => blk_store7 (x0 := x0) (x1 := x1) (x2 := x2) (x3 := x3) (x4 := x4) (x5 := x5) (x6 := x6) B7) (.int .i64 wd) (.int .i64 hi) (.bool wb) (.int .i64 wd) (.int .i64 hi) (.bool wb) (.func (.func 112) #[.agg #[.int .i64 wd, .int .i64 hi, .bool wb]] #[])
                replace B6 := (fun x0 x1 x2 x3 x4 x5 x6 => blk_other7 (x0 := x0) (x1 := x1) (x2 := x2) (x3 := x3) (x4 := x4) (x5 := x5) (x6 := x6) B6 n67) (.int .i64 wd) (.int .i64 hi) (.bool wb) (.int .i64 wd) (.int .i64 hi) (.bool wb) (.func (.func 112) #[.agg #[.int .i64 wd, .int .i64 hi, .bool wb]] #[])
                replace B7 := C7; clear C7
                clear hK K hH
                have hH := hH2; clear hH2
                generalize (((((((W8.setCell ⟨W1.heap.size, 0, none⟩ (.int .i64 wd)).setCell ⟨W1.heap.size, 1, none⟩ (.int .i64 hi)).setCell ⟨W1.heap.size, 2, none⟩ (.bool wb)).setCell ⟨W1.heap.size, 3, none⟩ (.int .i64 wd)).setCell ⟨W1.heap.size, 4, none⟩ (.int .i64 hi)).setCell ⟨W1.heap.size, 5, none⟩ (.bool wb)).setCell ⟨W1.heap.size, 6, none⟩ (.func (.func 112) #[.agg #[.int .i64 wd, .int .i64 hi, .bool wb]] #[])) = W9 at *
                try simp only [Act.put, List.getElem_toArray, List.getElem_cons_succ, List.getElem_cons_zero, List.setIfInBounds_toArray, List.set_cons_zero, List.set_cons_succ]
                refine wpAnyH_done (by kernel_rfl) ?_ _
                go_wp2
                go_meet
                case rel => exact ⟨_, _, rfl, rfl, B6, B7, le6, le7, hH.2⟩
          · skip
            go_simp
            refine hK.out _ _ (keep1_now X (below_next hH.2 (below_new _ (.cells #[.int .i64 0, .int .i64 0, .bool false, .int .i64 0, .int .i64 0, .bool false, .nilFunc] 80)))) (fun hH2 => ?_)
            have le6 : u2.heap.size ≤ W52.heap.size := hH.2.size
            have ne76 : W1.heap.size ≠ W52.heap.size := Nat.ne_of_lt B7.lt
            replace B7 := B7.alloc (.cells #[.int .i64 0, .int .i64 0, .bool false, .int .i64 0, .int .i64 0, .bool false, .nilFunc] 80)
            have B6 := Blk.new W52 #[.int .i64 0, .int .i64 0, .bool false, .int .i64 0, .int .i64 0, .bool false, .nilFunc] 80
            clear hK K hH
            have hH := hH2; clear hH2
            generalize W52.alloc (.cells #[.int .i64 0, .int .i64 0, .bool false, .int .i64 0, .int .i64 0, .bool false, .nilFunc] 80) = W58 at *
            try simp only [Act.put, List.getElem_toArray, List.getElem_cons_succ, List.getElem_cons_zero, List.setIfInBounds_toArray, List.set_cons_zero, List.set_cons_succ]
            refine wpAnyH_ready (rs := [4]) (by kernel_rfl) (by simp) ?_
            refine AllReadyH.cons (o := _) rfl (fun K hK => ?_) (AllReadyH.nil)
            · skip
              go_simp
              (with_reducible refine (implShapeOf _ _ _ _ _ _ _ _ _ _).mono ?_)
              rintro r W59 ⟨rfl, qa⟩
              refine hK.out _ _ (keep1_later X hH qa) (fun hH2 => ?_)
              replace B7 := B7.later qa
              replace B6 := B6.later qa
              clear hK K hH qa
              have hH := hH2; clear hH2
              try simp only [Act.put, List.getElem_toArray, List.getElem_cons_succ, List.getElem_cons_zero, List.setIfInBounds_toArray, List.set_cons_zero, List.set_cons_succ]
              refine wpAnyH_ready (rs := [5]) (by kernel_rfl) (by simp) ?_
              refine AllReadyH.cons (o := _) rfl (fun K hK => ?_) (AllReadyH.nil)
              · skip
                go_simp
                (with_reducible refine (impl_mirrorGaps _ _ _ _).mono ?_)
                rintro r W60 ⟨rfl, qa⟩
                refine hK.out _ _ (keep1_later X hH qa) (fun hH2 => ?_)
                replace B7 := B7.later qa
                replace B6 := B6.later qa
                clear hK K hH qa
                have hH := hH2; clear hH2
                try simp only [Act.put, List.getElem_toArray, List.getElem_cons_succ, List.getElem_cons_zero, List.setIfInBounds_toArray, List.set_cons_zero, List.set_cons_succ]
                have n67 : W52.heap.size ≠ W1.heap.size := Ne.symm ne76
                refine wpAnyH_ready (rs := [8]) (by kernel_rfl) (by simp) ?_
                refine AllReadyH.cons (o := _) rfl (fun K hK => ?_) AllReadyH.nil
                obtain ⟨sc, sf⟩ := B6.open
                go_simp
                refine hK.out _ _ (keep1_now X (below_set7 hH.2 le6)) (fun hH2 => ?_)
                clear sc sf
                have C6 := (fun x0 x1 x2 x3 x4 x5 x6 => blk_store7 (x0 := x0) (x1 := x1) (x2 := x2) (x3 := x3) (x4 := x4) (x5 := x5) (x6 := x6) B6) (.int .i64 wd) (.int .i64 hi) (.bool wb) (.int .i64 wd) (.int .i64 hi) (.bool wb) (.func (.func 111) #[.agg #[.int .i64 wd, .int .i64 hi, .bool wb]] #[])
                replace B7 := (fun x0 x1 x2 x3 x4 x5 x6 => blk_other7 (x0 := x0) (x1 := x1) (x2 := x2) (x3 := x3) (x4 := x4) (x5 := x5) (x6 := x6) B7 (Ne.symm n67)) (.int .i64 wd) (.int .i64 hi) (.bool wb) (.int .i64 wd) (.int .i64 hi) (.bool wb) (.func (.func 111) #[.agg #[.int .i64 wd, .int .i64 hi, .bool wb]] #[])
                replace B6 := C6; clear C6
                clear hK K hH
                have hH := hH2; clear hH2
                generalize (((((((W60.setCell ⟨W52.heap.size, 0, none⟩ (.int .i64 wd)).setCell ⟨W52.heap.size, 1, none⟩ (.int .i64 hi)).setCell ⟨W52.heap.size, 2, none⟩ (.bool wb)).setCell ⟨W52.heap.size, 3, none⟩ (.int .i64 wd)).setCell ⟨W52.heap.size, 4, none⟩ (.int .i64 hi)).setCell ⟨W52.heap.size, 5, none⟩ (.bool wb)).setCell ⟨W52.heap.size, 6, none⟩ (.func (.func 111) #[.agg #[.int .i64 wd, .int .i64 hi, .bool wb]] #[])) = W8 at *
                try simp only [Act.put, List.getElem_toArray, List.getElem_cons_succ, List.getElem_cons_zero, List.setIfInBounds_toArray, List.set_cons_zero, List.set_cons_succ]
                refine wpAnyH_ready (rs := [9]) (by kernel_rfl) (by simp) ?_
                refine AllReadyH.cons (o := _) rfl (fun K hK => ?_) AllReadyH.nil
                obtain ⟨sc, sf⟩ := B7.open
                go_simp
                refine hK.out _ _ (keep1_now X (below_set7 hH.2 le7)) (fun hH2 => ?_)
                clear sc sf
                have C7 := (fun x0 x1 x2 x3 x4 x5 x6 => blk_store7 (x0 := x0) (x1 := x1) (x2 := x2) (x3 := x3) (x4 := x4) (x5 := x5) (x6 := x6) B7) (.int .i64 wd) (.int .i64 hi) (.bool wb) (.int .i64 wd) (.int .i64 hi) (.bool wb) (.func (.func 112) #[.agg #[.int .i64 wd, .int .i64 hi, .bool wb]] #[])
                replace B6 := (fun x0 x1 x2 x3 x4 x5 x6 => blk_other7 (x0 := x0) (x1 := x1) (x2 := x2) (x3 := x3) (x4 := x4) (x5 := x5) (x6 := x6) B6 n67) (.int .i64 wd) (.int .i64 hi) (.bool wb) (.int .i64 wd) (.int .i64 hi) (.bool wb) (.func (.func 112) #[.agg #[.int .i64 wd, .int .i64 hi, .bool wb]] #[])
                replace B7 := C7; clear C7
                clear hK K hH
                have hH := hH2; clear hH2
                generalize (((((((W8.setCell ⟨W1.heap.size, 0, none⟩ (.int .i64 wd)).setCell ⟨W1.heap.size, 1, none⟩ (.int .i64 hi)).setCell ⟨W1.heap.size, 2, none⟩ (.bool wb)).setCell ⟨W1.heap.size, 3, none⟩ (.int .i64 wd)).setCell ⟨W1.heap.size, 4, none⟩ (.int .i64 hi)).setCell ⟨W1.heap.size, 5, none⟩ (.bool wb)).setCell ⟨W1.heap.size, 6, none⟩ (.func (.func 112) #[.agg #[.int .i64 wd, .int .i64 hi, .bool wb]] #[])) = W9 at *
                try simp only [Act.put, List.getElem_toArray, List.getElem_cons_succ, List.getElem_cons_zero, List.setIfInBounds_toArray, List.set_cons_zero, List.set_cons_succ]
                refine wpAnyH_done (by kernel_rfl) ?_ _
                go_wp2
                go_meet
                case rel => exact ⟨_, _, rfl, rfl, B6, B7, le6, le7, hH.2⟩
        · skip
          go_simp
          refine hK.out _ _ (keep1_now X (below_next hH.2 (below_new _ (.cells #[.int .i64 0, .int .i64 0, .bool false, .int .i64 0, .int .i64 0, .bool false, .nilFunc] 80)))) (fun hH2 => ?_)
          have le6 : u2.heap.size ≤ W51.heap.size := hH.2.size
          have ne76 : W1.heap.size ≠ W51.heap.size := Nat.ne_of_lt B7.lt
          replace B7 := B7.alloc (.cells #[.int .i64 0, .int .i64 0, .bool false, .int .i64 0, .int .i64 0, .bool false, .nilFunc] 80)
          have B6 := Blk.new W51 #[.int .i64 0, .int .i64 0, .bool false, .int .i64 0, .int .i64 0, .bool false, .nilFunc] 80
          clear hK K hH
          have hH := hH2; clear hH2
          generalize W51.alloc (.cells #[.int .i64 0, .int .i64 0, .bool false, .int .i64 0, .int .i64 0, .bool false, .nilFunc] 80) = W61 at *
          try simp only [Act.put, List.getElem_toArray, List.getElem_cons_succ, List.getElem_cons_zero, List.setIfInBounds_toArray, List.set_cons_zero, List.set_cons_succ]
          refine wpAnyH_ready (rs := [2]) (by kernel_rfl) (by simp) ?_
          refine AllReadyH.cons (o := _) rfl (fun K hK => ?_) (AllReadyH.nil)
          · skip
            go_simp
            (with_reducible refine (impl_mirrorCells _ _ _ _).mono ?_)
            rintro r W62 ⟨rfl, qa⟩
            refine hK.out _ _ (keep1_later X hH qa) (fun hH2 => ?_)
            replace B7 := B7.later qa
            replace B6 := B6.later qa
            clear hK K hH qa
            have hH := hH2; clear hH2
            try simp only [Act.put, List.getElem_toArray, List.getElem_cons_succ, List.getElem_cons_zero, List.setIfInBounds_toArray, List.set_cons_zero, List.set_cons_succ]
            refine wpAnyH_ready (rs := [4]) (by kernel_rfl) (by simp) ?_
            refine AllReadyH.cons (o := _) rfl (fun K hK => ?_) (AllReadyH.nil)
            · skip
              go_simp
              (with_reducible refine (implShapeOf _ _ _ _ _ _ _ _ _ _).mono ?_)
              rintro r W63 ⟨rfl, qa⟩
              refine hK.out _ _ (keep1_later X hH qa) (fun hH2 => ?_)
              replace B7 := B7.later qa
              replace B6 := B6.later qa
              clear hK K hH qa
              have hH := hH2; clear hH2
              try simp only [Act.put, List.getElem_toArray, List.getElem_cons_succ, List.getElem_cons_zero, List.setIfInBounds_toArray, List.set_cons_zero, List.set_cons_succ]
              refine wpAnyH_ready (rs := [5]) (by kernel_rfl) (by simp) ?_
              refine AllReadyH.cons (o := _) rfl (fun K hK => ?_) (AllReadyH.nil)
              · skip
                go_simp
                (with_reducible refine (impl_mirrorGaps _ _ _ _).mono ?_)
                rintro r W64 ⟨rfl, qa⟩
                refine hK.out _ _ (keep1_later X hH qa) (fun hH2 => ?_)
                replace B7 := B7.later qa
                replace B6 := B6.later qa
                clear hK K hH qa
                have hH := hH2; clear hH2
                try simp only [Act.put, List.getElem_toArray, List.getElem_cons_succ, List.getElem_cons_zero, List.setIfInBounds_toArray, List.set_cons_zero, List.set_cons_succ]
                have n67 : W51.heap.size ≠ W1.heap.size := Ne.symm ne76
                refine wpAnyH_ready (rs := [8]) (by kernel_rfl) (by simp) ?_
                refine AllReadyH.cons (o := _) rfl (fun K hK => ?_) AllReadyH.nil
                obtain ⟨sc, sf⟩ := B6.open
                go_simp
                refine hK.out _ _ (keep1_now X (below_set7 hH.2 le6)) (fun hH2 => ?_)
                clear sc sf
                have C6 := (fun x0 x1 x2 x3 x4 x5 x6 => blk_store7 (x0 := x0) (x1 := x1) (x2 := x2) (x3 := x3) (x4 := x4) (x5 := x5) (x6 := x6) B6) (.int .i64 wd) (.int .i64 hi) (.bool wb) (.int .i64 wd) (.int .i64 hi) (.bool wb) (.func (.func 111) #[.agg #[.int .i64 wd, .int .i64 hi, .bool wb]] #[])
                replace B7 := (fun x0 x1 x2 x3 x4 x5 x6 => blk_other7 (x0 := x0) (x1 := x1) (x2 := x2) (x3 := x3) (x4 := x4) (x5 := x5) (x6 := x6) B7 (Ne.symm n67)) (.int .i64 wd) (.int .i64 hi) (.bool wb) (.int .i64 wd) (.int .i64 hi) (.bool wb) (.func (.func 111) #[.agg #[.int .i64 wd, .int .i64 hi, .bool wb]] #[])
                replace B6 := C6; clear C6
                clear hK K hH
                have hH := hH2; clear hH2
                generalize (((((((W64.setCell ⟨W51.heap.size, 0, none⟩ (.int .i64 wd)).setCell ⟨W51.heap.size, 1, none⟩ (.int .i64 hi)).setCell ⟨W51.heap.size, 2, none⟩ (.bool wb)).setCell ⟨W51.heap.size, 3, none⟩ (.int .i64 wd)).setCell ⟨W51.heap.size, 4, none⟩ (.int .i64 hi)).setCell ⟨W51.heap.size, 5, none⟩ (.bool wb)).setCell ⟨W51.heap.size, 6, none⟩ (.func (.func 111) #[.agg #[.int .i64 wd, .int .i64 hi, .bool wb]] #[])) = W8 at *
                try simp only [Act.put, List.getElem_toArray, List.getElem_cons_succ, List.getElem_cons_zero, List.setIfInBounds_toArray, List.set_cons_zero, List.set_cons_succ]
                refine wpAnyH_ready (rs := [9]) (by kernel_rfl) (by simp) ?_
                refine AllReadyH.cons (o := _) rfl (fun K hK => ?_) AllReadyH.nil
                obtain ⟨sc, sf⟩ := B7.open
                go_simp
                refine hK.out _ _ (keep1_now X (below_set7 hH.2 le7)) (fun hH2 => ?_)
                clear sc sf
                have C7 := (fun x0 x1 x2 x3 x4 x5 x6 => blk_store7 (x0 := x0) (x1 := x1) (x2 := x2) (x3 := x3) (x4 := x4) (x5 := x5) (x6 := x6) B7) (.int .i64 wd) (.int .i64 hi) (.bool wb) (.int .i64 wd) (.int .i64 hi) (.bool wb) (.func (.func 112) #[.agg #[.int .i64 wd, .int .i64 hi, .bool wb]] #[])
                replace B6 := (fun x0 x1 x2 x3 x4 x5 x6 => blk_other7 (x0 := x0) (x1 := x1) (x2 := x2) (x3 := x3) (x4 := x4) (x5 := x5) (x6 := x6) B6 n67) (.int .i64 wd) (.int .i64 hi) (.bool wb) (.int .i64 wd) (.int .i64 hi) (.bool wb) (.func (.func 112) #[.agg #[.int .i64 wd, .int .i64 hi, .bool wb]] #[])
                replace B7 := C7; clear C7
                clear hK K hH
                have hH := hH2; clear hH2
                generalize (((((((W8.setCell ⟨W1.heap.size, 0, none⟩ (.int .i64 wd)).setCell ⟨W1.heap.size, 1, none⟩ (.int .i64 hi)).setCell ⟨W1.heap.size, 2, none⟩ (.bool wb)).setCell ⟨W1.heap.size, 3, none⟩ (.int .i64 wd)).setCell ⟨W1.heap.size, 4, none⟩ (.int .i64 hi)).setCell ⟨W1.heap.size, 5, none⟩ (.bool wb)).setCell ⟨W1.heap.size, 6, none⟩ (.func (.func 112) #[.agg #[.int .i64 wd, .int .i64 hi, .bool wb]] #[])) = W9 at *
                try simp only [Act.put, List.getElem_toArray, List.getElem_cons_succ, List.getElem_cons_zero, List.setIfInBounds_toArray, List.set_cons_zero, List.set_cons_succ]
                refine wpAnyH_done (by kernel_rfl) ?_ _
                go_wp2
                go_meet
                case rel => exact ⟨_, _, rfl, rfl, B6, B7, le6, le7, hH.2⟩
    · skip
      go_simp
      refine hK.out _ _ (keep1_now X (below_next hH.2 (below_new _ (.cells #[.int .i64 0, .int .i64 0, .bool false, .int .i64 0, .int .i64 0, .bool false, .nilFunc] 80)))) (fun hH2 => ?_)
      have le6 : u2.heap.size ≤ W0.heap.size := hH.2.size
      have B6 := Blk.new W0 #[.int .i64 0, .int .i64 0, .bool false, .int .i64 0, .int .i64 0, .bool false, .nilFunc] 80
      clear hK K hH
      have hH := hH2; clear hH2
      generalize W0.alloc (.cells #[.int .i64 0, .int .i64 0, .bool false, .int .i64 0, .int .i64 0, .bool false, .nilFunc] 80) = W65 at *
      try simp only [Act.put, List.getElem_toArray, List.getElem_cons_succ, List.getElem_cons_zero, List.setIfInBounds_toArray, List.set_cons_zero, List.set_cons_succ]
      refine wpAnyH_ready (rs := [1, 7]) (by kernel_rfl) (by simp) ?_
      refine AllReadyH.cons (o := _) rfl (fun K hK => ?_) (AllReadyH.cons (o := _) rfl (fun K hK => ?_) (AllReadyH.nil))
      · skip
        go_simp
        (with_reducible refine (implShapeOf _ _ _ _ _ _ _ _ _ _).mono ?_)
        rintro r W66 ⟨rfl, qa⟩
        refine hK.out _ _ (keep1_later X hH qa) (fun hH2 => ?_)
        replace B6 := B6.later qa
        clear hK K hH qa
        have hH := hH2; clear hH2
        try simp only [Act.put, List.getElem_toArray, List.getElem_cons_succ, List.getElem_cons_zero, List.setIfInBounds_toArray, List.set_cons_zero, List.set_cons_succ]
        refine wpAnyH_ready (rs := [2, 7]) (by kernel_rfl) (by simp) ?_
        refine AllReadyH.cons (o := _) rfl (fun K hK => ?_) (AllReadyH.cons (o := _) rfl (fun K hK => ?_) (AllReadyH.nil))
        · skip
          go_simp
          (with_reducible refine (impl_mirrorCells _ _ _ _).mono ?_)
          rintro r W67 ⟨rfl, qa⟩
          refine hK.out _ _ (keep1_later X hH qa) (fun hH2 => ?_)
          replace B6 := B6.later qa
          clear hK K hH qa
          have hH := hH2; clear hH2
          try simp only [Act.put, List.getElem_toArray, List.getElem_cons_succ, List.getElem_cons_zero, List.setIfInBounds_toArray, List.set_cons_zero, List.set_cons_succ]
          refine wpAnyH_ready (rs := [4, 7]) (by kernel_rfl) (by simp) ?_
          refine AllReadyH.cons (o := _) rfl (fun K hK => ?_) (AllReadyH.cons (o := _) rfl (fun K hK => ?_) (AllReadyH.nil))
          · skip
            go_simp
            (with_reducible refine (implShapeOf _ _ _ _ _ _ _ _ _ _).mono ?_)
            rintro r W68 ⟨rfl, qa⟩
            refine hK.out _ _ (keep1_later X hH qa) (fun hH2 => ?_)
            replace B6 := B6.later qa
            clear hK K hH qa
            have hH := hH2; clear hH2
            try simp only [Act.put, List.getElem_toArray, List.getElem_cons_succ, List.getElem_cons_zero, List.setIfInBounds_toArray, List.set_cons_zero, List.set_cons_succ]
            refine wpAnyH_ready (rs := [5, 7]) (by kernel_rfl) (by simp) ?_
            refine AllReadyH.cons (o := _) rfl (fun K hK => ?_) (AllReadyH.cons (o := _) rfl (fun K hK => ?_) (AllReadyH.nil))
            · skip
              go_simp
              (with_reducible refine (impl_mirrorGaps _ _ _ _).mono ?_)
              rintro r W69 ⟨rfl, qa⟩
              refine hK.out _ _ (keep1_later X hH qa) (fun hH2 => ?_)
              replace B6 := B6.later qa
              clear hK K hH qa
              have hH := hH2; clear hH2
              try simp only [Act.put, List.getElem_toArray, List.getElem_cons_succ, List.getElem_cons_zero, List.setIfInBounds_toArray, List.set_cons_zero, List.set_cons_succ]
              refine wpAnyH_ready (rs := [7]) (by kernel_rfl) (by simp) ?_
              refine AllReadyH.cons (o := _) rfl (fun K hK => ?_) (AllReadyH.nil)
              · skip
                go_simp
                refine hK.out _ _ (keep1_now X (below_next hH.2 (below_new _ (.cells #[.int .i64 0, .int .i64 0, .bool false, .int .i64 0, .int .i64 0, .bool false, .nilFunc] 80)))) (fun hH2 => ?_)
                have le7 : u2.heap.size ≤ W69.heap.size := hH.2.size
                have ne67 : W0.heap.size ≠ W69.heap.size := Nat.ne_of_lt B6.lt
                replace B6 := B6.alloc (.cells #[.int .i64 0, .int .i64 0, .bool false, .int .i64 0, .int .i64 0, .bool false, .nilFunc] 80)
                have B7 := Blk.new W69 #[.int .i64 0, .int .i64 0, .bool false, .int .i64 0, .int .i64 0, .bool false, .nilFunc] 80
                clear hK K hH
                have hH := hH2; clear hH2
                generalize W69.alloc (.cells #[.int .i64 0, .int .i64 0, .bool false, .int .i64 0, .int .i64 0, .bool false, .nilFunc] 80) = W70 at *
                try simp only [Act.put, List.getElem_toArray, List.getElem_cons_succ, List.getElem_cons_zero, List.setIfInBounds_toArray, List.set_cons_zero, List.set_cons_succ]
                have n67 : W0.heap.size ≠ W69.heap.size := ne67
                refine wpAnyH_ready (rs := [8]) (by kernel_rfl) (by simp) ?_
                refine AllReadyH.cons (o := _) rfl (fun K hK => ?_) AllReadyH.nil
                obtain ⟨sc, sf⟩ := B6.open
                go_simp
                refine hK.out _ _ (keep1_now X (below_set7 hH.2 le6)) (fun hH2 => ?_)
                clear sc sf
                have C6 := (fun x0 x1 x2 x3 x4 x5 x6 => blk_store7 (x0 := x0) (x1 := x1) (x2 := x2) (x3 := x3) (x4 := x4) (x5 := x5) (x6 := x6) B6) (.int .i64 wd) (.int .i64 hi) (.bool wb) (.int .i64 wd) (.int .i64 hi) (.bool wb) (.func (.func 111) #[.agg #[.int .i64 wd, .int .i64 hi, .bool wb]] #[])
                replace B7 := (fun x0 x1 x2 x3 x4 x5 x6 => blk_other7 (x0 := x0) (x1 := x1) (x2 := x2) (x3 := x3) (x4 := x4) (x5 := x5) (x6 := x6) B7 (Ne.symm n67)) (.int .i64 wd) (.int .i64 hi) (.bool wb) (.int .i64 wd) (.int .i64 hi) (.bool wb) (.func (.func 111) #[.agg #[.int .i64 wd, .int .i64 hi, .bool wb]] #[])
                replace B6 := C6; clear C6
                clear hK K hH
                have hH := hH2; clear hH2
                generalize (((((((W70.setCell ⟨W0.heap.size, 0, none⟩ (.int .i64 wd)).setCell ⟨W0.heap.size, 1, none⟩ (.int .i64 hi)).setCell ⟨W0.heap.size, 2, none⟩ (.bool wb)).setCell ⟨W0.heap.size, 3, none⟩ (.int .i64 wd)).setCell ⟨W0.heap.size, 4, none⟩ (.int .i64 hi)).setCell ⟨W0.heap.size, 5, none⟩ (.bool wb)).setCell ⟨W0.heap.size, 6, none⟩ (.func (.func 111) #[.agg #[.int .i64 wd, .int .i64 hi, .bool wb]] #[])) = W8 at *
                try simp only [Act.put, List.getElem_toArray, List.getElem_cons_succ, List.getElem_cons_zero, List.setIfInBounds_toArray, List.set_cons_zero, List.set_cons_succ]
                refine wpAnyH_ready (rs := [9]) (by kernel_rfl) (by simp) ?_
                refine AllReadyH.cons (o := _) rfl (fun K hK => ?_) AllReadyH.nil
                obtain ⟨sc, sf⟩ := B7.open
                go_simp
                refine hK.out _ _ (keep1_now X (below_set7 hH.2 le7)) (fun hH2 => ?_)
                clear sc sf
                have C7 := (fun x0 x1 x2 x3 x4 x5 x6 => blk_store7 (x0 := x0) (x1 := x1) (x2 := x2) (x3 := x3) (x4 := x4) (x5 := x5) (x6 := x6) B7) (.int .i64 wd) (.int .i64 hi) (.bool wb) (.int .i64 wd) (.int .i64 hi) (.bool wb) (.func (.func 112) #[.agg #[.int .i64 wd, .int .i64 hi, .bool wb]] #[])
                replace B6 := (fun x0 x1 x2 x3 x4 x5 x6 => blk_other7 (x0 := x0) (x1 := x1) (x2 := x2) (x3 := x3) (x4 := x4) (x5 := x5) (x6 := x6) B6 n67) (.int .i64 wd) (.int .i64 hi) (.bool wb) (.int .i64 wd) (.int .i64 hi) (.bool wb) (.func (.func 112) #[.agg #[.int .i64 wd, .int .i64 hi, .bool wb]] #[])
                replace B7 := C7; clear C7
                clear hK K hH
                have hH := hH2; clear hH2
                generalize (((((((W8.setCell ⟨W69.heap.size, 0, none⟩ (.int .i64 wd)).setCell ⟨W69.heap.size, 1, none⟩ (.int .i64 hi)).setCell ⟨W69.heap.size, 2, none⟩ (.bool wb)).setCell ⟨W69.heap.size, 3, none⟩ (.int .i64 wd)).setCell ⟨W69.heap.size, 4, none⟩ (.int .i64 hi)).setCell ⟨W69.heap.size, 5, none⟩ (.bool wb)).setCell ⟨W69.heap.size, 6, none⟩ (.func (.func 112) #[.agg #[.int .i64 wd, .int .i64 hi, .bool wb]] #[])) = W9 at *
                try simp only [Act.put, List.getElem_toArray, List.getElem_cons_succ, List.getElem_cons_zero, List.setIfInBounds_toArray, List.set_cons_zero, List.set_cons_succ]
                refine wpAnyH_done (by kernel_rfl) ?_ _
                go_wp2
                go_meet
                case rel => exact ⟨_, _, rfl, rfl, B6, B7, le6, le7, hH.2⟩
            · skip
              go_simp
              refine hK.out _ _ (keep1_now X (below_next hH.2 (below_new _ (.cells #[.int .i64 0, .int .i64 0, .bool false, .int .i64 0, .int .i64 0, .bool false, .nilFunc] 80)))) (fun hH2 => ?_)
              have le7 : u2.heap.size ≤ W68.heap.size := hH.2.size
              have ne67 : W0.heap.size ≠ W68.heap.size := Nat.ne_of_lt B6.lt
              replace B6 := B6.alloc (.cells #[.int .i64 0, .int .i64 0, .bool false, .int .i64 0, .int .i64 0, .bool false, .nilFunc] 80)
              have B7 := Blk.new W68 #[.int .i64 0, .int .i64 0, .bool false, .int .i64 0, .int .i64 0, .bool false, .nilFunc] 80
              clear hK K hH
              have hH := hH2; clear hH2
              generalize W68.alloc (.cells #[.int .i64 0, .int .i64 0, .bool false, .int .i64 0, .int .i64 0, .bool false, .nilFunc] 80) = W71 at *
              try simp only [Act.put, List.getElem_toArray, List.getElem_cons_succ, List.getElem_cons_zero, List.setIfInBounds_toArray, List.set_cons_zero, List.set_cons_succ]
              refine wpAnyH_ready (rs := [5]) (by kernel_rfl) (by simp) ?_
              refine AllReadyH.cons (o := _) rfl (fun K hK => ?_) (AllReadyH.nil)
              · skip
                go_simp
                (with_reducible refine (impl_mirrorGaps _ _ _ _).mono ?_)
                rintro r W72 ⟨rfl, qa⟩
                refine hK.out _ _ (keep1_later X hH qa) (fun hH2 => ?_)
                replace B6 := B6.later qa
                replace B7 := B7.later qa
                clear hK K hH qa
                have hH := hH2; clear hH2
                try simp only [Act.put, List.getElem_toArray, List.getElem_cons_succ, List.getElem_cons_zero, List.setIfInBounds_toArray, List.set_cons_zero, List.set_cons_succ]
                have n67 : W0.heap.size ≠ W68.heap.size := ne67
                refine wpAnyH_ready (rs := [8]) (by kernel_rfl) (by simp) ?_
                refine AllReadyH.cons (o := _) rfl (fun K hK => ?_) AllReadyH.nil
                obtain ⟨sc, sf⟩ := B6.open
                go_simp
                refine hK.out _ _ (keep1_now X (below_set7 hH.2 le6)) (fun hH2 => ?_)
                clear sc sf
                have C6 := (fun x0 x1 x2 x3 x4 x5 x6 => blk_store7 (x0 := x0) (x1 := x1) (x2 := x2) (x3 := x3) (x4 := x4) (x5 := x5) (x6 := x6) B6) (.int .i64 wd) (.int .i64 hi) (.bool wb) (.int .i64 wd) (.int .i64 hi) (.bool wb) (.func (.func 111) #[.agg #[.int .i64 wd, .int .i64 hi, .bool wb]] #[])
                replace B7 := (fun x0 x1 x2 x3 x4 x5 x6 => blk_other7 (x0 := x0) (x1 := x1) (x2 := x2) (x3 := x3) (x4 := x4) (x5 := x5) (x6 := x6) B7 (Ne.symm n67)) (.int .i64 wd) (.int .i64 hi) (.bool wb) (.int .i64 wd) (.int .i64 hi) (.bool wb) (.func (.func 111) #[.agg #[.int .i64 wd, .int .i64 hi, .bool wb]] #[])
                replace B6 := C6; clear C6
                clear hK K hH
                have hH := hH2; clear hH2
                generalize (((((((W72.setCell ⟨W0.heap.size, 0, none⟩ (.int .i64 wd)).setCell ⟨W0.heap.size, 1, none⟩ (.int .i64 hi)).setCell ⟨W0.heap.size, 2, none⟩ (.bool wb)).setCell ⟨W0.heap.size, 3, none⟩ (.int .i64 wd)).setCell ⟨W0.heap.size, 4, none⟩ (.int .i64 hi)).setCell ⟨W0.heap.size, 5, none⟩ (.bool wb)).setCell ⟨W0.heap.size, 6, none⟩ (.func (.func 111) #[.agg #[.int .i64 wd, .int .i64 hi, .bool wb]] #[])) = W8 at *
                try simp only [Act.put, List.getElem_toArray, List.getElem_cons_succ, List.getElem_cons_zero, List.setIfInBounds_toArray, List.set_cons_zero, List.set_cons_succ]
                refine wpAnyH_ready (rs := [9]) (by kernel_rfl) (by simp) ?_
                refine AllReadyH.cons (o := _) rfl (fun K hK => ?_) AllReadyH.nil
                obtain ⟨sc, sf⟩ := B7.open
                go_simp
                refine hK.out _ _ (keep1_now X (below_set7 hH.2 le7)) (fun hH2 => ?_)
                clear sc sf
                have C7 := (fun x0 x1 x2 x3 x4 x5 x6 => blk_store7 (x0 := x0) (x1 := x1) (x2 := x2) (x3 := x3) (x4 := x4) (x5 := x5) (x6 := x6) B7) (.int .i64 wd) (.int .i64 hi) (.bool wb) (.int .i64 wd) (.int .i64 hi) (.bool wb) (.func (.func 112) #[.agg #[.int .i64 wd, .int .i64 hi, .bool wb]] #[])
                replace B6 := (fun x0 x1 x2 x3 x4 x5 x6 => blk_other7 (x0 := x0) (x1 := x1) (x2 := x2) (x3 := x3) (x4 := x4) (x5 := x5) (x6 := x6) B6 n67) (.int .i64 wd) (.int .i64 hi) (.bool wb) (.int .i64 wd) (.int .i64 hi) (.bool wb) (.func (.func 112) #[.agg #[.int .i64 wd, .int .i64 hi, .bool wb]] #[])
                replace B7 := C7; clear C7
                clear hK K hH
                have hH := hH2; clear hH2
                generalize (((((((W8.setCell ⟨W68.heap.size, 0, none⟩ (.int .i64 wd)).setCell ⟨W68.heap.size, 1, none⟩ (.int .i64 hi)).setCell ⟨W68.heap.size, 2, none⟩ (.bool wb)).setCell ⟨W68.heap.size, 3, none⟩ (.int .i64 wd)).setCell ⟨W68.heap.size, 4, none⟩ (.int .i64 hi)).setCell ⟨W68.heap.size, 5, none⟩ (.bool wb)).setCell ⟨W68.heap.size, 6, none⟩ (.func (.func 112) #[.agg #[.int .i64 wd, .int .i64 hi, .bool wb]] #[])) = W9 at *
                try simp only [Act.put, List.getElem_toArray, List.getElem_cons_succ, List.getElem_cons_zero, List.setIfInBounds_toArray, List.set_cons_zero, List.set_cons_succ]
                refine wpAnyH_done (by kernel_rfl) ?_ _
                go_wp2
                go_meet
                case rel => exact ⟨_, _, rfl, rfl, B6, B7, le6, le7, hH.2⟩
          · skip
            go_simp
            refine hK.out _ _ (keep1_now X (below_next hH.2 (below_new _ (.cells #[.int .i64 0, .int .i64 0, .bool false, .int .i64 0, .int .i64 0, .bool false, .nilFunc] 80)))) (fun hH2 => ?_)
            have le7 : u2.heap.size ≤ W67.heap.size := hH.2.size
            have ne67 : W0.heap.size ≠ W67.heap.size := Nat.ne_of_lt B6.lt
            replace B6 := B6.alloc (.cells #[.int .i64 0, .int .i64 0, .bool false, .int .i64 0, .int .i64 0, .bool false, .nilFunc] 80)
            have B7 := Blk.new W67 #[.int .i64 0, .int .i64 0, .bool false, .int .i64 0, .int .i64 0, .bool false, .nilFunc] 80
            clear hK K hH
            have hH := hH2; clear hH2
            generalize W67.alloc (.cells #[.int .i64 0, .int .i64 0, .bool false, .int .i64 0, .int .i64 0, .bool false, .nilFunc] 80) = W73 at *
            try simp only [Act.put, List.getElem_toArray, List.getElem_cons_succ, List.getElem_cons_zero, List.setIfInBounds_toArray, List.set_cons_zero, List.set_cons_succ]
            refine wpAnyH_ready (rs := [4]) (by kernel_rfl) (by simp) ?_
            refine AllReadyH.cons (o := _) rfl (fun K hK => ?_) (AllReadyH.nil)
            · skip
              go_simp
              (with_reducible refine (implShapeOf _ _ _ _ _ _ _ _ _ _).mono ?_)
              rintro r W74 ⟨rfl, qa⟩
              refine hK.out _ _ (keep1_later X hH qa) (fun hH2 => ?_)
              replace B6 := B6.later qa
              replace B7 := B7.later qa
              clear hK K hH qa
              have hH := hH2; clear hH2
              try simp only [Act.put, List.getElem_toArray, List.getElem_cons_succ, List.getElem_cons_zero, List.setIfInBounds_toArray, List.set_cons_zero, List.set_cons_succ]
              refine wpAnyH_ready (rs := [5]) (by kernel_rfl) (by simp) ?_
              refine AllReadyH.cons (o := _) rfl (fun K hK => ?_) (AllReadyH.nil)
              · skip
                go_simp
                (with_reducible refine (impl_mirrorGaps _ _ _ _).mono ?_)
                rintro r W75 ⟨rfl, qa⟩
                refine hK.out _ _ (keep1_later X hH qa) (fun hH2 => ?_)
                replace B6 := B6.later qa
                replace B7 := B7.later qa
                clear hK K hH qa
                have hH := hH2; clear hH2
                try simp only [Act.put, List.getElem_toArray, List.getElem_cons_succ, List.getElem_cons_zero, List.setIfInBounds_toArray, List.set_cons_zero, List.set_cons_succ]
                have n67 : W0.heap.size ≠ W67.heap.size := ne67
                refine wpAnyH_ready (rs := [8]) (by kernel_rfl) (by simp) ?_
                refine AllReadyH.cons (o := _) rfl (fun K hK => ?_) AllReadyH.nil
                obtain ⟨sc, sf⟩ := B6.open
                go_simp
                refine hK.out _ _ (keep1_now X (below_set7 hH.2 le6)) (fun hH2 => ?_)
                clear sc sf
                have C6 := (fun x0 x1 x2 x3 x4 x5 x6 => blk_store7 (x0 := x0) (x1 := x1) (x2 := x2) (x3 := x3) (x4 := x4) (x5 := x5) (x6 := x6) B6) (.int .i64 wd) (.int .i64 hi) (.bool wb) (.int .i64 wd) (.int .i64 hi) (.bool wb) (.func (.func 111) #[.agg #[.int .i64 wd, .int .i64 hi, .bool wb]] #[])
                replace B7 := (fun x0 x1 x2 x3 x4 x5 x6 => blk_other7 (x0 := x0) (x1 := x1) (x2 := x2) (x3 := x3) (x4 := x4) (x5 := x5) (x6 := x6) B7 (Ne.symm n67)) (.int .i64 wd) (.int .i64 hi) (.bool wb) (.int .i64 wd) (.int .i64 hi) (.bool wb) (.func (.func 111) #[.agg #[.int .i64 wd, .int .i64 hi, .bool wb]] #[])
                replace B6 := C6; clear C6
                clear hK K hH
                have hH := hH2; clear hH2
                generalize (((((((W75.setCell ⟨W0.heap.size, 0, none⟩ (.int .i64 wd)).setCell ⟨W0.heap.size, 1, none⟩ (.int .i64 hi)).setCell ⟨W0.heap.size, 2, none⟩ (.bool wb)).setCell ⟨W0.heap.size, 3, none⟩ (.int .i64 wd)).setCell ⟨W0.heap.size, 4, none⟩ (.int .i64 hi)).setCell ⟨W0.heap.size, 5, none⟩ (.bool wb)).setCell ⟨W0.heap.size, 6, none⟩ (.func (.func 111) #[.agg #[.int .i64 wd, .int .i64 hi, .bool wb]] #[])) = W8 at *
                try simp only [Act.put, List.getElem_toArray, List.getElem_cons_succ, List.getElem_cons_zero, List.setIfInBounds_toArray, List.set_cons_zero, List.set_cons_succ]
                refine wpAnyH_ready (rs := [9]) (by kernel_rfl) (by simp) ?_
                refine AllReadyH.cons (o := _) rfl (fun K hK => ?_) AllReadyH.nil
                obtain ⟨sc, sf⟩ := B7.open
                go_simp
                refine hK.out _ _ (keep1_now X (below_set7 hH.2 le7)) (fun hH2 => ?_)
                clear sc sf
                have C7 := (fun x0 x1 x2 x3 x4 x5 x6 => blk_store7 (x0 := x0) (x1 := x1) (x2 := x2) (x3 := x3) (x4 := x4) (x5 := x5) (x6 := x6) B7) (.int .i64 wd) (.int .i64 hi) (.bool wb) (.int .i64 wd) (.int .i64 hi) (.bool wb) (.func (.func 112) #[.agg #[.int .i64 wd, .int .i64 hi, .bool wb]] #[])
                replace B6 := (fun x0 x1 x2 x3 x4 x5 x6 => blk_other7 (x0 := x0) (x1 := x1) (x2 := x2) (x3 := x3) (x4 := x4) (x5 := x5) (x6 := x6) B6 n67) (.int .i64 wd) (.int .i64 hi) (.bool wb) (.int .i64 wd) (.int .i64 hi) (.bool wb) (.func (.func 112) #[.agg #[.int .i64 wd, .int .i64 hi, .bool wb]] #[])
                replace B7 := C7; clear C7
                clear hK K hH
                have hH := hH2; clear hH2
                generalize (((((((W8.setCell ⟨W67.heap.size, 0, none⟩ (.int .i64 wd)).setCell ⟨W67.heap.size, 1, none⟩ (.int .i64 hi)).setCell ⟨W67.heap.size, 2, none⟩ (.bool wb)).setCell ⟨W67.heap.size, 3, none⟩ (.int .i64 wd)).setCell ⟨W67.heap.size, 4, none⟩ (.int .i64 hi)).setCell ⟨W67.heap.size, 5, none⟩ (.bool wb)).setCell ⟨W67.heap.size, 6, none⟩ (.func (.func 112) #[.agg #[.int .i64 wd, .int .i64 hi, .bool wb]] #[])) = W9 at *
                try simp only [Act.put, List.getElem_toArray, List.getElem_cons_succ, List.getElem_cons_zero, List.setIfInBounds_toArray, List.set_cons_zero, List.set_cons_succ]
                refine wpAnyH_done (by kernel_rfl) ?_ _
                go_wp2
                go_meet
                case rel => exact ⟨_, _, rfl, rfl, B6, B7, le6, le7, hH.2⟩
        · skip
          go_simp
          refine hK.out _ _ (keep1_now X (below_next hH.2 (below_new _ (.cells #[.int .i64 0, .int .i64 0, .bool false, .int .i64 0, .int .i64 0, .bool false, .nilFunc] 80)))) (fun hH2 => ?_)
          have le7 : u2.heap.size ≤ W66.heap.size := hH.2.size
          have ne67 : W0.heap.size ≠ W66.heap.size := Nat.ne_of_lt B6.lt
          replace B6 := B6.alloc (.cells #[.int .i64 0, .int .i64 0, .bool false, .int .i64 0, .int .i64 0, .bool false, .nilFunc] 80)
          have B7 := Blk.new W66 #[.int .i64 0, .int .i64 0, .bool false, .int .i64 0, .int .i64 0, .bool false, .nilFunc] 80
          clear hK K hH
          have hH := hH2; clear hH2
          generalize W66.alloc (.cells #[.int .i64 0, .int .i64 0, .bool false, .int .i64 0, .int .i64 0, .bool false, .nilFunc] 80) = W76 at *
          try simp only [Act.put, List.getElem_toArray, List.getElem_cons_succ, List.getElem_cons_zero, List.setIfInBounds_toArray, List.set_cons_zero, List.set_cons_succ]
          refine wpAnyH_ready (rs := [2]) (by kernel_rfl) (by simp) ?_
          refine AllReadyH.cons (o := _) rfl (fun K hK => ?_) (AllReadyH.nil)
          · skip
            go_simp
            (with_reducible refine (impl_mirrorCells _ _ _ _).mono ?_)
            rintro r W77 ⟨rfl, qa⟩
            refine hK.out _ _ (keep1_later X hH qa) (fun hH2 => ?_)
            replace B6 := B6.later qa
            replace B7 := B7.later qa
            clear hK K hH qa
            have hH := hH2; clear hH2
            try simp only [Act.put, List.getElem_toArray, List.getElem_cons_succ, List.getElem_cons_zero, List.setIfInBounds_toArray, List.set_cons_zero, List.set_cons_succ]
            refine wpAnyH_ready (rs := [4]) (by kernel_rfl) (by simp) ?_
            refine AllReadyH.cons (o := _) rfl (fun K hK => ?_) (AllReadyH.nil)
            · skip
              go_simp
              (with_reducible refine (implShapeOf _ _ _ _ _ _ _ _ _ _).mono ?_)
              rintro r W78 ⟨rfl, qa⟩
              refine hK.out _ _ (keep1_later X hH qa) (fun hH2 => ?_)
              replace B6 := B6.later qa
              replace B7 := B7.later qa
              clear hK K hH qa
              have hH := hH2; clear hH2
              try simp only [Act.put, List.getElem_toArray, List.getElem_cons_succ, List.getElem_cons_zero, List.setIfInBounds_toArray, List.set_cons_zero, List.set_cons_succ]
              refine wpAnyH_ready (rs := [5]) (by kernel_rfl) (by simp) ?_
              refine AllReadyH.cons (o := _) rfl (fun K hK => ?_) (AllReadyH.nil)
              · skip
                go_simp
                (with_reducible refine (impl_mirrorGaps _ _ _ _).mono ?_)
                rintro r W79 ⟨rfl, qa⟩
                refine hK.out _ _ (keep1_later X hH qa) (fun hH2 => ?_)
                replace B6 := B6.later qa
                replace B7 := B7.later qa
                clear hK K hH qa
                have hH := hH2; clear hH2
                try simp only [Act.put, List.getElem_toArray, List.getElem_cons_succ, List.getElem_cons_zero, List.setIfInBounds_toArray, List.set_cons_zero, List.set_cons_succ]
                have n67 : W0.heap.size ≠ W66.heap.size := ne67
                refine wpAnyH_ready (rs := [8]) (by kernel_rfl) (by simp) ?_
                refine AllReadyH.cons (o := _) rfl (fun K hK => ?_) AllReadyH.nil
                obtain ⟨sc, sf⟩ := B6.open
                go_simp
                refine hK.out _ _ (keep1_now X (below_set7 hH.2 le6)) (fun hH2 => ?_)
                clear sc sf
                have C6 := (fun x0 x1 x2 x3 x4 x5 x6 => blk_store7 (x0 := x0) (x1 := x1) (x2 := x2) (x3 := x3) (x4 := x4) (x5 := x5) (x6 := x6) B6) (.int .i64 wd) (.int .i64 hi) (.bool wb) (.int .i64 wd) (.int .i64 hi) (.bool wb) (.func (.func 111) #[.agg #[.int .i64 wd, .int .i64 hi, .bool wb]] #[])
                replace B7 := (fun x0 x1 x2 x3 x4 x5 x6 => blk_other7 (x0 := x0) (x1 := x1) (x2 := x2) (x3 := x3) (x4 := x4) (x5 := x5) (x6 := x6) B7 (Ne.symm n67)) (.int .i64 wd) (.int .i64 hi) (.bool wb) (.int .i64 wd) (.int .i64 hi) (.bool wb) (.func (.func 111) #[.agg #[.int .i64 wd, .int .i64 hi, .bool wb]] #[])
                replace B6 := C6; clear C6
                clear hK K hH
                have hH := hH2; clear hH2
                generalize (((((((W79.setCell ⟨W0.heap.size, 0, none⟩ (.int .i64 wd)).setCell ⟨W0.heap.size, 1, none⟩ (.int .i64 hi)).setCell ⟨W0.heap.size, 2, none⟩ (.bool wb)).setCell ⟨W0.heap.size, 3, none⟩ (.int .i64 wd)).setCell ⟨W0.heap.size, 4, none⟩ (.int .i64 hi)).setCell ⟨W0.heap.size, 5, none⟩ (.bool wb)).setCell ⟨W0.heap.size, 6, none⟩ (.func (.func 111) #[.agg #[.int .i64 wd, .int .i64 hi, .bool wb]] #[])) = W8 at *
                try simp only [Act.put, List.getElem_toArray, List.getElem_cons_succ, List.getElem_cons_zero, List.setIfInBounds_toArray, List.set_cons_zero, List.set_cons_succ]
                refine wpAnyH_ready (rs := [9]) (by kernel_rfl) (by simp) ?_
                refine AllReadyH.cons (o := _) rfl (fun K hK => ?_) AllReadyH.nil
                obtain ⟨sc, sf⟩ := B7.open
                go_simp
                refine hK.out _ _ (keep1_now X (below_set7 hH.2 le7)) (fun hH2 => ?_)
                clear sc sf
                have C7 := (fun x0 x1 x2 x3 x4 x5 x6 => blk_store7 (x0 := x0) (x1 := x1) (x2 := x2) (x3 := x3) (x4 := x4) (x5 := x5) (x6 := x6) B7) (.int .i64 wd) (.int .i64 hi) (.bool wb) (.int .i64 wd) (.int .i64 hi) (.bool wb) (.func (.func 112) #[.agg #[.int .i64 wd, .int .i64 hi, .bool wb]] #[])
                replace B6 := (fun x0 x1 x2 x3 x4 x5 x6 => blk_other7 (x0 := x0) (x1 := x1) (x2 := x2) (x3 := x3) (x4 := x4) (x5 := x5) (x6 := x6) B6 n67) (.int .i64 wd) (.int .i64 hi) (.bool wb) (.int .i64 wd) (.int .i64 hi) (.bool wb) (.func (.func 112) #[.agg #[.int .i64 wd, .int .i64 hi, .bool wb]] #[])
                replace B7 := C7; clear C7
                clear hK K hH
                have hH := hH2; clear hH2
                generalize (((((((W8.setCell ⟨W66.heap.size, 0, none⟩ (.int .i64 wd)).setCell ⟨W66.heap.size, 1, none⟩ (.int .i64 hi)).setCell ⟨W66.heap.size, 2, none⟩ (.bool wb)).setCell ⟨W66.heap.size, 3, none⟩ (.int .i64 wd)).setCell ⟨W66.heap.size, 4, none⟩ (.int .i64 hi)).setCell ⟨W66.heap.size, 5, none⟩ (.bool wb)).setCell ⟨W66.heap.size, 6, none⟩ (.func (.func 112) #[.agg #[.int .i64 wd, .int .i64 hi, .bool wb]] #[])) = W9 at *
                try simp only [Act.put, List.getElem_toArray, List.getElem_cons_succ, List.getElem_cons_zero, List.setIfInBounds_toArray, List.set_cons_zero, List.set_cons_succ]
                refine wpAnyH_done (by kernel_rfl) ?_ _
                go_wp2
                go_meet
                case rel => exact ⟨_, _, rfl, rfl, B6, B7, le6, le7, hH.2⟩
      · skip
        go_simp
        refine hK.out _ _ (keep1_now X (below_next hH.2 (below_new _ (.cells #[.int .i64 0, .int .i64 0, .bool false, .int .i64 0, .int .i64 0, .bool false, .nilFunc] 80)))) (fun hH2 => ?_)
        have le7 : u2.heap.size ≤ W65.heap.size := hH.2.size
        have ne67 : W0.heap.size ≠ W65.heap.size := Nat.ne_of_lt B6.lt
        replace B6 := B6.alloc (.cells #[.int .i64 0, .int .i64 0, .bool false, .int .i64 0, .int .i64 0, .bool false, .nilFunc] 80)
        have B7 := Blk.new W65 #[.int .i64 0, .int .i64 0, .bool false, .int .i64 0, .int .i64 0, .bool false, .nilFunc] 80
        clear hK K hH
        have hH := hH2; clear hH2
        generalize W65.alloc (.cells #[.int .i64 0, .int .i64 0, .bool false, .int .i64 0, .int .i64 0, .bool false, .nilFunc] 80) = W80 at *
        try simp only [Act.put, List.getElem_toArray, List.getElem_cons_succ, List.getElem_cons_zero, List.setIfInBounds_toArray, List.set_cons_zero, List.set_cons_succ]
        refine wpAnyH_ready (rs := [1]) (by kernel_rfl) (by simp) ?_
        refine AllReadyH.cons (o := _) rfl (fun K hK => ?_) (AllReadyH.nil)
        · skip
          go_simp
          (with_reducible refine (implShapeOf _ _ _ _ _ _ _ _ _ _).mono ?_)
          rintro r W81 ⟨rfl, qa⟩
          refine hK.out _ _ (keep1_later X hH qa) (fun hH2 => ?_)
          replace B6 := B6.later qa
          replace B7 := B7.later qa
          clear hK K hH qa
          have hH := hH2; clear hH2
          try simp only [Act.put, List.getElem_toArray, List.getElem_cons_succ, List.getElem_cons_zero, List.setIfInBounds_toArray, List.set_cons_zero, List.set_cons_succ]
          refine wpAnyH_ready (rs := [2]) (by kernel_rfl) (by simp) ?_
          refine AllReadyH.cons (o := _) rfl (fun K hK => ?_) (AllReadyH.nil)
          · skip
            go_simp
            (with_reducible refine (impl_mirrorCells _ _ _ _).mono ?_)
            rintro r W82 ⟨rfl, qa⟩
            refine hK.out _ _ (keep1_later X hH qa) (fun hH2 => ?_)
            replace B6 := B6.later qa
            replace B7 := B7.later qa
            clear hK K hH qa
            have hH := hH2; clear hH2
            try simp only [Act.put, List.getElem_toArray, List.getElem_cons_succ, List.getElem_cons_zero, List.setIfInBounds_toArray, List.set_cons_zero, List.set_cons_succ]
            refine wpAnyH_ready (rs := [4]) (by kernel_rfl) (by simp) ?_
            refine AllReadyH.cons (o := _) rfl (fun K hK => ?_) (AllReadyH.nil)
            · skip
              go_simp
              (with_reducible refine (implShapeOf _ _ _ _ _ _ _ _ _ _).mono ?_)
              rintro r W83 ⟨rfl, qa⟩
              refine hK.out _ _ (keep1_later X hH qa) (fun hH2 => ?_)
              replace B6 := B6.later qa
              replace B7 := B7.later qa
              clear hK K hH qa
              have hH := hH2; clear hH2
              try simp only [Act.put, List.getElem_toArray, List.getElem_cons_succ, List.getElem_cons_zero, List.setIfInBounds_toArray, List.set_cons_zero, List.set_cons_succ]
              refine wpAnyH_ready (rs := [5]) (by kernel_rfl) (by simp) ?_
              refine AllReadyH.cons (o := _) rfl (fun K hK => ?_) (AllReadyH.nil)
              · skip
                go_simp
                (with_reducible refine (impl_mirrorGaps _ _ _ _).mono ?_)
                rintro r W84 ⟨rfl, qa⟩
                refine hK.out _ _ (keep1_later X hH qa) (fun hH2 => ?_)
                replace B6 := B6.later qa
                replace B7 := B7.later qa
                clear hK K hH qa
                have hH := hH2; clear hH2
                try simp only [Act.put, List.getElem_toArray, List.getElem_cons_succ, List.getElem_cons_zero, List.setIfInBounds_toArray, List.set_cons_zero, List.set_cons_succ]
                have n67 : W0.heap.size ≠ W65.heap.size := ne67
                refine wpAnyH_ready (rs := [8]) (by kernel_rfl) (by simp) ?_
                refine AllReadyH.cons (o := _) rfl (fun K hK => ?_) AllReadyH.nil
                obtain ⟨sc, sf⟩ := B6.open
                go_simp
                refine hK.out _ _ (keep1_now X (below_set7 hH.2 le6)) (fun hH2 => ?_)
                clear sc sf
                have C6 := (fun x0 x1 x2 x3 x4 x5 x6 => blk_store7 (x0 := x0) (x1 := x1) (x2 := x2) (x3 := x3) (x4 := x4) (x5 := x5) (x6 := x6) B6) (.int .i64 wd) (.int .i64 hi) (.bool wb) (.int .i64 wd) (.int .i64 hi) (.bool wb) (.func (.func 111) #[.agg #[.int .i64 wd, .int .i64 hi, .bool wb]] #[])
                replace B7 := (fun x0 x1 x2 x3 x4 x5 x6 => blk_other7 (x0 := x0) (x1 := x1) (x2 := x2) (x3 := x3) (x4 := x4) (x5 := x5) (x6 := x6) B7 (Ne.symm n67)) (.int .i64 wd) (.int .i64 hi) (.bool wb) (.int .i64 wd) (.int .i64 hi) (.bool wb) (.func (.func 111) #[.agg #[.int .i64 wd, .int .i64 hi, .bool wb]] #[])
                replace B6 := C6; clear C6
                clear hK K hH
                have hH := hH2; clear hH2
                generalize (((((((W84.setCell ⟨W0.heap.size, 0, none⟩ (.int .i64 wd)).setCell ⟨W0.heap.size, 1, none⟩ (.int .i64 hi)).setCell ⟨W0.heap.size, 2, none⟩ (.bool wb)).setCell ⟨W0.heap.size, 3, none⟩ (.int .i64 wd)).setCell ⟨W0.heap.size, 4, none⟩ (.int .i64 hi)).setCell ⟨W0.heap.size, 5, none⟩ (.bool wb)).setCell ⟨W0.heap.size, 6, none⟩ (.func (.func 111) #[.agg #[.int .i64 wd, .int .i64 hi, .bool wb]] #[])) = W8 at *
                try simp only [Act.put, List.getElem_toArray, List.getElem_cons_succ, List.getElem_cons_zero, List.setIfInBounds_toArray, List.set_cons_zero, List.set_cons_succ]
                refine wpAnyH_ready (rs := [9]) (by kernel_rfl) (by simp) ?_
                refine AllReadyH.cons (o := _) rfl (fun K hK => ?_) AllReadyH.nil
                obtain ⟨sc, sf⟩ := B7.open
                go_simp
                refine hK.out _ _ (keep1_now X (below_set7 hH.2 le7)) (fun hH2 => ?_)
                clear sc sf
                have C7 := (fun x0 x1 x2 x3 x4 x5 x6 => blk_store7 (x0 := x0) (x1 := x1) (x2 := x2) (x3 := x3) (x4 := x4) (x5 := x5) (x6 := x6) B7) (.int .i64 wd) (.int .i64 hi) (.bool wb) (.int .i64 wd) (.int .i64 hi) (.bool wb) (.func (.func 112) #[.agg #[.int .i64 wd, .int .i64 hi, .bool wb]] #[])
                replace B6 := (fun x0 x1 x2 x3 x4 x5 x6 => blk_other7 (x0 := x0) (x1 := x1) (x2 := x2) (x3 := x3) (x4 := x4) (x5 := x5) (x6 := x6) B6 n67) (.int .i64 wd) (.int .i64 hi) (.bool wb) (.int .i64 wd) (.int .i64 hi) (.bool wb) (.func (.func 112) #[.agg #[.int .i64 wd, .int .i64 hi, .bool wb]] #[])
                replace B7 := C7; clear C7
                clear hK K hH
                have hH := hH2; clear hH2
                generalize (((((((W8.setCell ⟨W65.heap.size, 0, none⟩ (.int .i64 wd)).setCell ⟨W65.heap.size, 1, none⟩ (.int .i64 hi)).setCell ⟨W65.heap.size, 2, none⟩ (.bool wb)).setCell ⟨W65.heap.size, 3, none⟩ (.int .i64 wd)).setCell ⟨W65.heap.size, 4, none⟩ (.int .i64 hi)).setCell ⟨W65.heap.size, 5, none⟩ (.bool wb)).setCell ⟨W65.heap.size, 6, none⟩ (.func (.func 112) #[.agg #[.int .i64 wd, .int .i64 hi, .bool wb]] #[])) = W9 at *
                try simp only [Act.put, List.getElem_toArray, List.getElem_cons_succ, List.getElem_cons_zero, List.setIfInBounds_toArray, List.set_cons_zero, List.set_cons_succ]
                refine wpAnyH_done (by kernel_rfl) ?_ _
                go_wp2
                go_meet
                case rel => exact ⟨_, _, rfl, rfl, B6, B7, le6, le7, hH.2⟩
    · skip
      go_simp
      refine hK.out _ _ (keep1_now X (below_next hH.2 (below_new _ (.cells #[.int .i64 0, .int .i64 0, .bool false, .int .i64 0, .int .i64 0, .bool false, .nilFunc] 80)))) (fun hH2 => ?_)
      have le7 : u2.heap.size ≤ W0.heap.size := hH.2.size
      have B7 := Blk.new W0 #[.int .i64 0, .int .i64 0, .bool false, .int .i64 0, .int .i64 0, .bool false, .nilFunc] 80
      clear hK K hH
      have hH := hH2; clear hH2
      generalize W0.alloc (.cells #[.int .i64 0, .int .i64 0, .bool false, .int .i64 0, .int .i64 0, .bool false, .nilFunc] 80) = W85 at *
      try simp only [Act.put, List.getElem_toArray, List.getElem_cons_succ, List.getElem_cons_zero, List.setIfInBounds_toArray, List.set_cons_zero, List.set_cons_succ]
      refine wpAnyH_ready (rs := [1, 6]) (by kernel_rfl) (by simp) ?_
      refine AllReadyH.cons (o := _) rfl (fun K hK => ?_) (AllReadyH.cons (o := _) rfl (fun K hK => ?_) (AllReadyH.nil))
      · skip
        go_simp
        (with_reducible refine (implShapeOf _ _ _ _ _ _ _ _ _ _).mono ?_)
        rintro r W86 ⟨rfl, qa⟩
        refine hK.out _ _ (keep1_later X hH qa) (fun hH2 => ?_)
        replace B7 := B7.later qa
        clear hK K hH qa
        have hH := hH2; clear hH2
        try simp only [Act.put, List.getElem_toArray, List.getElem_cons_succ, List.getElem_cons_zero, List.setIfInBounds_toArray, List.set_cons_zero, List.set_cons_succ]
        refine wpAnyH_ready (rs := [2, 6]) (by kernel_rfl) (by simp) ?_
        refine AllReadyH.cons (o := _) rfl (fun K hK => ?_) (AllReadyH.cons (o := _) rfl (fun K hK => ?_) (AllReadyH.nil))
        · skip
          go_simp
          (with_reducible refine (impl_mirrorCells _ _ _ _).mono ?_)
          rintro r W87 ⟨rfl, qa⟩
          refine hK.out _ _ (keep1_later X hH qa) (fun hH2 => ?_)
          replace B7 := B7.later qa
          clear hK K hH qa
          have hH := hH2; clear hH2
          try simp only [Act.put, List.getElem_toArray, List.getElem_cons_succ, List.getElem_cons_zero, List.setIfInBounds_toArray, List.set_cons_zero, List.set_cons_succ]
          refine wpAnyH_ready (rs := [4, 6]) (by kernel_rfl) (by simp) ?_
          refine AllReadyH.cons (o := _) rfl (fun K hK => ?_) (AllReadyH.cons (o := _) rfl (fun K hK => ?_) (AllReadyH.nil))
          · skip
            go_simp
            (with_reducible refine (implShapeOf _ _ _ _ _ _ _ _ _ _).mono ?_)
            rintro r W88 ⟨rfl, qa⟩
            refine hK.out _ _ (keep1_later X hH qa) (fun hH2 => ?_)
            replace B7 := B7.later qa
            clear hK K hH qa
            have hH := hH2; clear hH2
            try simp only [Act.put, List.getElem_toArray, List.getElem_cons_succ, List.getElem_cons_zero, List.setIfInBounds_toArray, List.set_cons_zero, List.set_cons_succ]
            refine wpAnyH_ready (rs := [5, 6]) (by kernel_rfl) (by simp) ?_
            refine AllReadyH.cons (o := _) rfl (fun K hK => ?_) (AllReadyH.cons (o := _) rfl (fun K hK => ?_) (AllReadyH.nil))
            · skip
              go_simp
              (with_reducible refine (impl_mirrorGaps _ _ _ _).mono ?_)
              rintro r W89 ⟨rfl, qa⟩
              refine hK.out _ _ (keep1_later X hH qa) (fun hH2 => ?_)
              replace B7 := B7.later qa
              clear hK K hH qa
              have hH := hH2; clear hH2
              try simp only [Act.put, List.getElem_toArray, List.getElem_cons_succ, List.getElem_cons_zero, List.setIfInBounds_toArray, List.set_cons_zero, List.set_cons_succ]
              refine wpAnyH_ready (rs := [6]) (by kernel_rfl) (by simp) ?_
              refine AllReadyH.cons (o := _) rfl (fun K hK => ?_) (AllReadyH.nil)
              · skip
                go_simp
                refine hK.out _ _ (keep1_now X (below_next hH.2 (below_new _ (.cells #[.int .i64 0, .int .i64 0, .bool false, .int .i64 0, .int .i64 0, .bool false, .nilFunc] 80)))) (fun hH2 => ?_)
                have le6 : u2.heap.size ≤ W89.heap.size := hH.2.size
                have ne76 : W0.heap.size ≠ W89.heap.size := Nat.ne_of_lt B7.lt
                replace B7 := B7.alloc (.cells #[.int .i64 0, .int .i64 0, .bool false, .int .i64 0, .int .i64 0, .bool false, .nilFunc] 80)
                have B6 := Blk.new W89 #[.int .i64 0, .int .i64 0, .bool false, .int .i64 0, .int .i64 0, .bool false, .nilFunc] 80
                clear hK K hH
                have hH := hH2; clear hH2
                generalize W89.alloc (.cells #[.int .i64 0, .int .i64 0, .bool false, .int .i64 0, .int .i64 0, .bool false, .nilFunc] 80) = W90 at *
                try simp only [Act.put, List.getElem_toArray, List.getElem_cons_succ, List.getElem_cons_zero, List.setIfInBounds_toArray, List.set_cons_zero, List.set_cons_succ]
                have n67 : W89.heap.size ≠ W0.heap.size := Ne.symm ne76
                refine wpAnyH_ready (rs := [8]) (by kernel_rfl) (by simp) ?_
                refine AllReadyH.cons (o := _) rfl (fun K hK => ?_) AllReadyH.nil
                obtain ⟨sc, sf⟩ := B6.open
                go_simp
                refine hK.out _ _ (keep1_now X (below_set7 hH.2 le6)) (fun hH2 => ?_)
                clear sc sf
                have C6 := (fun x0 x1 x2 x3 x4 x5 x6 => blk_store7 (x0 := x0) (x1 := x1) (x2 := x2) (x3 := x3) (x4 := x4) (x5 := x5) (x6 := x6) B6) (.int .i64 wd) (.int .i64 hi) (.bool wb) (.int .i64 wd) (.int .i64 hi) (.bool wb) (.func (.func 111) #[.agg #[.int .i64 wd, .int .i64 hi, .bool wb]] #[])
                replace B7 := (fun x0 x1 x2 x3 x4 x5 x6 => blk_other7 (x0 := x0) (x1 := x1) (x2 := x2) (x3 := x3) (x4 := x4) (x5 := x5) (x6 := x6) B7 (Ne.symm n67)) (.int .i64 wd) (.int .i64 hi) (.bool wb) (.int .i64 wd) (.int .i64 hi) (.bool wb) (.func (.func 111) #[.agg #[.int .i64 wd, .int .i64 hi, .bool wb]] #[])
                replace B6 := C6; clear C6
                clear hK K hH
                have hH := hH2; clear hH2
                generalize (((((((W90.setCell ⟨W89.heap.size, 0, none⟩ (.int .i64 wd)).setCell ⟨W89.heap.size, 1, none⟩ (.int .i64 hi)).setCell ⟨W89.heap.size, 2, none⟩ (.bool wb)).setCell ⟨W89.heap.size, 3, none⟩ (.int .i64 wd)).setCell ⟨W89.heap.size, 4, none⟩ (.int .i64 hi)).setCell ⟨W89.heap.size, 5, none⟩ (.bool wb)).setCell ⟨W89.heap.size, 6, none⟩ (.func (.func 111) #[.agg #[.int .i64 wd, .int .i64 hi, .bool wb]] #[])) = W8 at *
                try simp only [Act.put, List.getElem_toArray, List.getElem_cons_succ, List.getElem_cons_zero, List.setIfInBounds_toArray, List.set_cons_zero, List.set_cons_succ]
                refine wpAnyH_ready (rs := [9]) (by kernel_rfl) (by simp) ?_
                refine AllReadyH.cons (o := _) rfl (fun K hK => ?_) AllReadyH.nil
                obtain ⟨sc, sf⟩ := B7.open
                go_simp
                refine hK.out _ _ (keep1_now X (below_set7 hH.2 le7)) (fun hH2 => ?_)
                clear sc sf
                have C7 := (fun x0 x1 x2 x3 x4 x5 x6 => blk_store7 (x0 := x0) (x1 := x1) (x2 := x2) (x3 := x3) (x4 := x4) (x5 := x5) (x6 := x6) B7) (.int .i64 wd) (.int .i64 hi) (.bool wb) (.int .i64 wd) (.int .i64 hi) (.bool wb) (.func (.func 112) #[.agg #[.int .i64 wd, .int .i64 hi, .bool wb]] #[])
                replace B6 := (fun x0 x1 x2 x3 x4 x5 x6 => blk_other7 (x0 := x0) (x1 := x1) (x2 := x2) (x3 := x3) (x4 := x4) (x5 := x5) (x6 := x6) B6 n67) (.int .i64 wd) (.int .i64 hi) (.bool wb) (.int .i64 wd) (.int .i64 hi) (.bool wb) (.func (.func 112) #[.agg #[.int .i64 wd, .int .i64 hi, .bool wb]] #[])
                replace B7 := C7; clear C7
                clear hK K hH
                have hH := hH2; clear hH2
                generalize (((((((W8.setCell ⟨W0.heap.size, 0, none⟩ (.int .i64 wd)).setCell ⟨W0.heap.size, 1, none⟩ (.int .i64 hi)).setCell ⟨W0.heap.size, 2, none⟩ (.bool wb)).setCell ⟨W0.heap.size, 3, none⟩ (.int .i64 wd)).setCell ⟨W0.heap.size, 4, none⟩ (.int .i64 hi)).setCell ⟨W0.heap.size, 5, none⟩ (.bool wb)).setCell ⟨W0.heap.size, 6, none⟩ (.func (.func 112) #[.agg #[.int .i64 wd, .int .i64 hi, .bool wb]] #[])) = W9 at *
                try simp only [Act.put, List.getElem_toArray, List.getElem_cons_succ, List.getElem_cons_zero, List.setIfInBounds_toArray, List.set_cons_zero, List.set_cons_succ]
                refine wpAnyH_done (by kernel_rfl) ?_ _
                go_wp2
                go_meet
                case rel => exact ⟨_, _, rfl, rfl, B6, B7, le6, le7, hH.2⟩
            · skip
              go_simp
              refine hK.out _ _ (keep1_now X (below_next hH.2 (below_new _ (.cells #[.int .i64 0, .int .i64 0, .bool false, .int .i64 0, .int .i64 0, .bool false, .nilFunc] 80)))) (fun hH2 => ?_)
              have le6 : u2.heap.size ≤ W88.heap.size := hH.2.size
              have ne76 : W0.heap.size ≠ W88.heap.size := Nat.ne_of_lt B7.lt
              replace B7 := B7.alloc (.cells #[.int .i64 0, .int .i64 0, .bool false, .int .i64 0, .int .i64 0, .bool false, .nilFunc] 80)
              have B6 := Blk.new W88 #[.int .i64 0, .int .i64 0, .bool false, .int .i64 0, .int .i64 0, .bool false, .nilFunc] 80
              clear hK K hH
              have hH := hH2; clear hH2
              generalize W88.alloc (.cells #[.int .i64 0, .int .i64 0, .bool false, .int .i64 0, .int .i64 0, .bool false, .nilFunc] 80) = W91 at *
              try simp only [Act.put, List.getElem_toArray, List.getElem_cons_succ, List.getElem_cons_zero, List.setIfInBounds_toArray, List.set_cons_zero, List.set_cons_succ]
              refine wpAnyH_ready (rs := [5]) (by kernel_rfl) (by simp) ?_
              refine AllReadyH.cons (o := _) rfl (fun K hK => ?_) (AllReadyH.nil)
              · skip
                go_simp
                (with_reducible refine (impl_mirrorGaps _ _ _ _).mono ?_)
                rintro r W92 ⟨rfl, qa⟩
                refine hK.out _ _ (keep1_later X hH qa) (fun hH2 => ?_)
                replace B7 := B7.later qa
                replace B6 := B6.later qa
                clear hK K hH qa
                have hH := hH2; clear hH2
                try simp only [Act.put, List.getElem_toArray, List.getElem_cons_succ, List.getElem_cons_zero, List.setIfInBounds_toArray, List.set_cons_zero, List.set_cons_succ]
                have n67 : W88.heap.size ≠ W0.heap.size := Ne.symm ne76
                refine wpAnyH_ready (rs := [8]) (by kernel_rfl) (by simp) ?_
                refine AllReadyH.cons (o := _) rfl (fun K hK => ?_) AllReadyH.nil
                obtain ⟨sc, sf⟩ := B6.open
                go_simp
                refine hK.out _ _ (keep1_now X (below_set7 hH.2 le6)) (fun hH2 => ?_)
                clear sc sf
                have C6 := (fun x0 x1 x2 x3 x4 x5 x6 => blk_store7 (x0 := x0) (x1 := x1) (x2 := x2) (x3 := x3) (x4 := x4) (x5 := x5) (x6 := x6) B6) (.int .i64 wd) (.int .i64 hi) (.bool wb) (.int .i64 wd) (.int .i64 hi) (.bool wb) (.func (.func 111) #[.agg #[.int .i64 wd, .int .i64 hi, .bool wb]] #[])
                replace B7 := (fun x0 x1 x2 x3 x4 x5 x6 => blk_other7 (x0 := x0) (x1 := x1) (x2 := x2) (x3 := x3) (x4 := x4) (x5 := x5) (x6 := x6) B7 (Ne.symm n67)) (.int .i64 wd) (.int .i64 hi) (.bool wb) (.int .i64 wd) (.int .i64 hi) (.bool wb) (.func (.func 111) #[.agg #[.int .i64 wd, .int .i64 hi, .bool wb]] #[])
                replace B6 := C6; clear C6
                clear hK K hH
                have hH := hH2; clear hH2
                generalize (((((((W92.setCell ⟨W88.heap.size, 0, none⟩ (.int .i64 wd)).setCell ⟨W88.heap.size, 1, none⟩ (.int .i64 hi)).setCell ⟨W88.heap.size, 2, none⟩ (.bool wb)).setCell ⟨W88.heap.size, 3, none⟩ (.int .i64 wd)).setCell ⟨W88.heap.size, 4, none⟩ (.int .i64 hi)).setCell ⟨W88.heap.size, 5, none⟩ (.bool wb)).setCell ⟨W88.heap.size, 6, none⟩ (.func (.func 111) #[.agg #[.int .i64 wd, .int .i64 hi, .bool wb]] #[])) = W8 at *
                try simp only [Act.put, List.getElem_toArray, List.getElem_cons_succ, List.getElem_cons_zero, List.setIfInBounds_toArray, List.set_cons_zero, List.set_cons_succ]
                refine wpAnyH_ready (rs := [9]) (by kernel_rfl) (by simp) ?_
                refine AllReadyH.cons (o := _) rfl (fun K hK => ?_) AllReadyH.nil
                obtain ⟨sc, sf⟩ := B7.open
                go_simp
                refine hK.out _ _ (keep1_now X (below_set7 hH.2 le7)) (fun hH2 => ?_)
                clear sc sf
                have C7 := (fun x0 x1 x2 x3 x4 x5 x6 => blk_store7 (x0 := x0) (x1 := x1) (x2 := x2) (x3 := x3) (x4 := x4) (x5 := x5) (x6 := x6) B7) (.int .i64 wd) (.int .i64 hi) (.bool wb) (.int .i64 wd) (.int .i64 hi) (.bool wb) (.func (.func 112) #[.agg #[.int .i64 wd, .int .i64 hi, .bool wb]] #[])
                replace B6 := (fun x0 x1 x2 x3 x4 x5 x6 => blk_other7 (x0 := x0) (x1 := x1) (x2 := x2) (x3 := x3) (x4 := x4) (x5 := x5) (x6 := x6) B6 n67) (.int .i64 wd) (.int .i64 hi) (.bool wb) (.int .i64 wd) (.int .i64 hi) (.bool wb) (.func (.func 112) #[.agg #[.int .i64 wd, .int .i64 hi, .bool wb]] #[])
                replace B7 := C7; clear C7
                clear hK K hH
                have hH := hH2; clear hH2
                generalize (((((((W8.setCell ⟨W0.heap.size, 0, none⟩ (.int .i64 wd)).setCell ⟨W0.heap.size, 1, none⟩ (.int .i64 hi)).setCell ⟨W0.heap.size, 2, none⟩ (.bool wb)).setCell ⟨W0.heap.size, 3, none⟩ (.int .i64 wd)).setCell ⟨W0.heap.size, 4, none⟩ (.int .i64 hi)).setCell ⟨W0.heap.size, 5, none⟩ (.bool wb)).setCell ⟨W0.heap.size, 6, none⟩ (.func (.func 112) #[.agg #[.int .i64 wd, .int .i64 hi, .bool wb]] #[])) = W9 at *
                try simp only [Act.put, List.getElem_toArray, List.getElem_cons_succ, List.getElem_cons_zero, List.setIfInBounds_toArray, List.set_cons_zero, List.set_cons_succ]
                refine wpAnyH_done (by kernel_rfl) ?_ _
                go_wp2
                go_meet
                case rel => exact ⟨_, _, rfl, rfl, B6, B7, le6, le7, hH.2⟩
          · skip
            go_simp
            refine hK.out _ _ (keep1_now X (below_next hH.2 (below_new _ (.cells #[.int .i64 0, .int .i64 0, .bool false, .int .i64 0, .int .i64 0, .bool false, .nilFunc] 80)))) (fun hH2 => ?_)
            have le6 : u2.heap.size ≤ W87.heap.size := hH.2.size
            have ne76 : W0.heap.size ≠ W87.heap.size := Nat.ne_of_lt B7.lt
            replace B7 := B7.alloc (.cells #[.int .i64 0, .int .i64 0, .bool false, .int .i64 0, .int .i64 0, .bool false, .nilFunc] 80)
            have B6 := Blk.new W87 #[.int .i64 0, .int .i64 0, .bool false, .int .i64 0, .int .i64 0, .bool false, .nilFunc] 80
            clear hK K hH
            have hH := hH2; clear hH2
            generalize W87.alloc (.cells #[.int .i64 0, .int .i64 0, .bool false, .int .i64 0, .int .i64 0, .bool false, .nilFunc] 80) = W93 at *
            try simp only [Act.put, List.getElem_toArray, List.getElem_cons_succ, List.getElem_cons_zero, List.setIfInBounds_toArray, List.set_cons_zero, List.set_cons_succ]
            refine wpAnyH_ready (rs := [4]) (by kernel_rfl) (by simp) ?_
            refine AllReadyH.cons (o := _) rfl (fun K hK => ?_) (AllReadyH.nil)
            · skip
              go_simp
              (with_reducible refine (implShapeOf _ _ _ _ _ _ _ _ _ _).mono ?_)
              rintro r W94 ⟨rfl, qa⟩
              refine hK.out _ _ (keep1_later X hH qa) (fun hH2 => ?_)
              replace B7 := B7.later qa
              replace B6 := B6.later qa
              clear hK K hH qa
              have hH := hH2; clear hH2
              try simp only [Act.put, List.getElem_toArray, List.getElem_cons_succ, List.getElem_cons_zero, List.setIfInBounds_toArray, List.set_cons_zero, List.set_cons_succ]
              refine wpAnyH_ready (rs := [5]) (by kernel_rfl) (by simp) ?_
              refine AllReadyH.cons (o := _) rfl (fun K hK => ?_) (AllReadyH.nil)
              · skip
                go_simp
                (with_reducible refine (impl_mirrorGaps _ _ _ _).mono ?_)
                rintro r W95 ⟨rfl, qa⟩
                refine hK.out _ _ (keep1_later X hH qa) (fun hH2 => ?_)
                replace B7 := B7.later qa
                replace B6 := B6.later qa
                clear hK K hH qa
                have hH := hH2; clear hH2
                try simp only [Act.put, List.getElem_toArray, List.getElem_cons_succ, List.getElem_cons_zero, List.setIfInBounds_toArray, List.set_cons_zero, List.set_cons_succ]
                have n67 : W87.heap.size ≠ W0.heap.size := Ne.symm ne76
                refine wpAnyH_ready (rs := [8]) (by kernel_rfl) (by simp) ?_
                refine AllReadyH.cons (o := _) rfl (fun K hK => ?_) AllReadyH.nil
                obtain ⟨sc, sf⟩ := B6.open
                go_simp
                refine hK.out _ _ (keep1_now X (below_set7 hH.2 le6)) (fun hH2 => ?_)
                clear sc sf
                have C6 := (fun x0 x1 x2 x3 x4 x5 x6 => blk_store7 (x0 := x0) (x1 := x1) (x2 := x2) (x3 := x3) (x4 := x4) (x5 := x5) (x6 := x6) B6) (.int .i64 wd) (.int .i64 hi) (.bool wb) (.int .i64 wd) (.int .i64 hi) (.bool wb) (.func (.func 111) #[.agg #[.int .i64 wd, .int .i64 hi, .bool wb]] #[])
                replace B7 := (fun x0 x1 x2 x3 x4 x5 x6 => blk_other7 (x0 := x0) (x1 := x1) (x2 := x2) (x3 := x3) (x4 := x4) (x5 := x5) (x6 := x6) B7 (Ne.symm n67)) (.int .i64 wd) (.int .i64 hi) (.bool wb) (.int .i64 wd) (.int .i64 hi) (.bool wb) (.func (.func 111) #[.agg #[.int .i64 wd, .int .i64 hi, .bool wb]] #[])
                replace B6 := C6; clear C6
                clear hK K hH
                have hH := hH2; clear hH2
                generalize (((((((W95.setCell ⟨W87.heap.size, 0, none⟩ (.int .i64 wd)).setCell ⟨W87.heap.size, 1, none⟩ (.int .i64 hi)).setCell ⟨W87.heap.size, 2, none⟩ (.bool wb)).setCell ⟨W87.heap.size, 3, none⟩ (.int .i64 wd)).setCell ⟨W87.heap.size, 4, none⟩ (.int .i64 hi)).setCell ⟨W87.heap.size, 5, none⟩ (.bool wb)).setCell ⟨W87.heap.size, 6, none⟩ (.func (.func 111) #[.agg #[.int .i64 wd, .int .i64 hi, .bool wb]] #[])) = W8 at *
                try simp only [Act.put, List.getElem_toArray, List.getElem_cons_succ, List.getElem_cons_zero, List.setIfInBounds_toArray, List.set_cons_zero, List.set_cons_succ]
                refine wpAnyH_ready (rs := [9]) (by kernel_rfl) (by simp) ?_
                refine AllReadyH.cons (o := _) rfl (fun K hK => ?_) AllReadyH.nil
                obtain ⟨sc, sf⟩ := B7.open
                go_simp
                refine hK.out _ _ (keep1_now X (below_set7 hH.2 le7)) (fun hH2 => ?_)
                clear sc sf
                have C7 := (fun x0 x1 x2 x3 x4 x5 x6 => blk_store7 (x0 := x0) (x1 := x1) (x2 := x2) (x3 := x3) (x4 := x4) (x5 := x5) (x6 := x6) B7) (.int .i64 wd) (.int .i64 hi) (.bool wb) (.int .i64 wd) (.int .i64 hi) (.bool wb) (.func (.func 112) #[.agg #[.int .i64 wd, .int .i64 hi, .bool wb]] #[])
                replace B6 := (fun x0 x1 x2 x3 x4 x5 x6 => blk_other7 (x0 := x0) (x1 := x1) (x2 := x2) (x3 := x3) (x4 := x4) (x5 := x5) (x6 := x6) B6 n67) (.int .i64 wd) (.int .i64 hi) (.bool wb) (.int .i64 wd) (.int .i64 hi) (.bool wb) (.func (.func 112) #[.agg #[.int .i64 wd, .int .i64 hi, .bool wb]] #[])
                replace B7 := C7; clear C7
                clear hK K hH
                have hH := hH2; clear hH2
                generalize (((((((W8.setCell ⟨W0.heap.size, 0, none⟩ (.int .i64 wd)).setCell ⟨W0.heap.size, 1, none⟩ (.int .i64 hi)).setCell ⟨W0.heap.size, 2, none⟩ (.bool wb)).setCell ⟨W0.heap.size, 3, none⟩ (.int .i64 wd)).setCell ⟨W0.heap.size, 4, none⟩ (.int .i64 hi)).setCell ⟨W0.heap.size, 5, none⟩ (.bool wb)).setCell ⟨W0.heap.size, 6, none⟩ (.func (.func 112) #[.agg #[.int .i64 wd, .int .i64 hi, .bool wb]] #[])) = W9 at *
                try simp only [Act.put, List.getElem_toArray, List.getElem_cons_succ, List.getElem_cons_zero, List.setIfInBounds_toArray, List.set_cons_zero, List.set_cons_succ]
                refine wpAnyH_done (by kernel_rfl) ?_ _
                go_wp2
                go_meet
                case rel => exact ⟨_, _, rfl, rfl, B6, B7, le6, le7, hH.2⟩
        · skip
          go_simp
          refine hK.out _ _ (keep1_now X (below_next hH.2 (below_new _ (.cells #[.int .i64 0, .int .i64 0, .bool false, .int .i64 0, .int .i64 0, .bool false, .nilFunc] 80)))) (fun hH2 => ?_)
          have le6 : u2.heap.size ≤ W86.heap.size := hH.2.size
          have ne76 : W0.heap.size ≠ W86.heap.size := Nat.ne_of_lt B7.lt
          replace B7 := B7.alloc (.cells #[.int .i64 0, .int .i64 0, .bool false, .int .i64 0, .int .i64 0, .bool false, .nilFunc] 80)
          have B6 := Blk.new W86 #[.int .i64 0, .int .i64 0, .bool false, .int .i64 0, .int .i64 0, .bool false, .nilFunc] 80
          clear hK K hH
          have hH := hH2; clear hH2
          generalize W86.alloc (.cells #[.int .i64 0, .int .i64 0, .bool false, .int .i64 0, .int .i64 0, .bool false, .nilFunc] 80) = W96 at *
          try simp only [Act.put, List.getElem_toArray, List.getElem_cons_succ, List.getElem_cons_zero, List.setIfInBounds_toArray, List.set_cons_zero, List.set_cons_succ]
          refine wpAnyH_ready (rs := [2]) (by kernel_rfl) (by simp) ?_
          refine AllReadyH.cons (o := _) rfl (fun K hK => ?_) (AllReadyH.nil)
          · skip
            go_simp
            (with_reducible refine (impl_mirrorCells _ _ _ _).mono ?_)
            rintro r W97 ⟨rfl, qa⟩
            refine hK.out _ _ (keep1_later X hH qa) (fun hH2 => ?_)
            replace B7 := B7.later qa
            replace B6 := B6.later qa
            clear hK K hH qa
            have hH := hH2; clear hH2
            try simp only [Act.put, List.getElem_toArray, List.getElem_cons_succ, List.getElem_cons_zero, List.setIfInBounds_toArray, List.set_cons_zero, List.set_cons_succ]
            refine wpAnyH_ready (rs := [4]) (by kernel_rfl) (by simp) ?_
            refine AllReadyH.cons (o := _) rfl (fun K hK => ?_) (AllReadyH.nil)
            · skip
              go_simp
              (with_reducible refine (implShapeOf _ _ _ _ _ _ _ _ _ _).mono ?_)
              rintro r W98 ⟨rfl, qa⟩
              refine hK.out _ _ (keep1_later X hH qa) (fun hH2 => ?_)
              replace B7 := B7.later qa
              replace B6 := B6.later qa
              clear hK K hH qa
              have hH := hH2; clear hH2
              try simp only [Act.put, List.getElem_toArray, List.getElem_cons_succ, List.getElem_cons_zero, List.setIfInBounds_toArray, List.set_cons_zero, List.set_cons_succ]
              refine wpAnyH_ready (rs := [5]) (by kernel_rfl) (by simp) ?_
              refine AllReadyH.cons (o := _) rfl (fun K hK => ?_) (AllReadyH.nil)
              · skip
                go_simp
                (with_reducible refine (impl_mirrorGaps _ _ _ _).mono ?_)
                rintro r W99 ⟨rfl, qa⟩
                refine hK.out _ _ (keep1_later X hH qa) (fun hH2 => ?_)
                replace B7 := B7.later qa
                replace B6 := B6.later qa
                clear hK K hH qa
                have hH := hH2; clear hH2
                try simp only [Act.put, List.getElem_toArray, List.getElem_cons_succ, List.getElem_cons_zero, List.setIfInBounds_toArray, List.set_cons_zero, List.set_cons_succ]
                have n67 : W86.heap.size ≠ W0.heap.size := Ne.symm ne76
                refine wpAnyH_ready (rs := [8]) (by kernel_rfl) (by simp) ?_
                refine AllReadyH.cons (o := _) rfl (fun K hK => ?_) AllReadyH.nil
                obtain ⟨sc, sf⟩ := B6.open
                go_simp
                refine hK.out _ _ (keep1_now X (below_set7 hH.2 le6)) (fun hH2 => ?_)
                clear sc sf
                have C6 := (fun x0 x1 x2 x3 x4 x5 x6 => blk_store7 (x0 := x0) (x1 := x1) (x2 := x2) (x3 := x3) (x4 := x4) (x5 := x5) (x6 := x6) B6) (.int .i64 wd) (.int .i64 hi) (.bool wb) (.int .i64 wd) (.int .i64 hi) (.bool wb) (.func (.func 111) #[.agg #[.int .i64 wd, .int .i64 hi, .bool wb]] #[])
                replace B7 := (fun x0 x1 x2 x3 x4 x5 x6 => blk_other7 (x0 := x0) (x1 := x1) (x2 := x2) (x3 := x3) (x4 := x4) (x5 := x5) (x6 := x6) B7 (Ne.symm n67)) (.int .i64 wd) (.int .i64 hi) (.bool wb) (.int .i64 wd) (.int .i64 hi) (.bool wb) (.func (.func 111) #[.agg #[.int .i64 wd, .int .i64 hi, .bool wb]] #[])
                replace B6 := C6; clear C6
                clear hK K hH
                have hH := hH2; clear hH2
                generalize (((((((W99.setCell ⟨W86.heap.size, 0, none⟩ (.int .i64 wd)).setCell ⟨W86.heap.size, 1, none⟩ (.int .i64 hi)).setCell ⟨W86.heap.size, 2, none⟩ (.bool wb)).setCell ⟨W86.heap.size, 3, none⟩ (.int .i64 wd)).setCell ⟨W86.heap.size, 4, none⟩ (.int .i64 hi)).setCell ⟨W86.heap.size, 5, none⟩ (.bool wb)).setCell ⟨W86.heap.size, 6, none⟩ (.func (.func 111) #[.agg #[.int .i64 wd, .int .i64 hi, .bool wb]] #[])) = W8 at *
                try simp only [Act.put, List.getElem_toArray, List.getElem_cons_succ, List.getElem_cons_zero, List.setIfInBounds_toArray, List.set_cons_zero, List.set_cons_succ]
                refine wpAnyH_ready (rs := [9]) (by kernel_rfl) (by simp) ?_
                refine AllReadyH.cons (o := _) rfl (fun K hK => ?_) AllReadyH.nil
                obtain ⟨sc, sf⟩ := B7.open
                go_simp
                refine hK.out _ _ (keep1_now X (below_set7 hH.2 le7)) (fun hH2 => ?_)
                clear sc sf
                have C7 := (fun x0 x1 x2 x3 x4 x5 x6 => blk_store7 (x0 := x0) (x1 := x1) (x2 := x2) (x3 := x3) (x4 := x4) (x5 := x5) (x6 := x6) B7) (.int .i64 wd) (.int .i64 hi) (.bool wb) (.int .i64 wd) (.int .i64 hi) (.bool wb) (.func (.func 112) #[.agg #[.int .i64 wd, .int .i64 hi, .bool wb]] #[])
                replace B6 := (fun x0 x1 x2 x3 x4 x5 x6 => blk_other7 (x0 := x0) (x1 := x1) (x2 := x2) (x3 := x3) (x4 := x4) (x5 := x5) (x6 := x6) B6 n67) (.int .i64 wd) (.int .i64 hi) (.bool wb) (.int .i64 wd) (.int .i64 hi) (.bool wb) (.func (.func 112) #[.agg #[.int .i64 wd, .int .i64 hi, .bool wb]] #[])
                replace B7 := C7; clear C7
                clear hK K hH
                have hH := hH2; clear hH2
                generalize (((((((W8.setCell ⟨W0.heap.size, 0, none⟩ (.int .i64 wd)).setCell ⟨W0.heap.size, 1, none⟩ (.int .i64 hi)).setCell ⟨W0.heap.size, 2, none⟩ (.bool wb)).setCell ⟨W0.heap.size, 3, none⟩ (.int .i64 wd)).setCell ⟨W0.heap.size, 4, none⟩ (.int .i64 hi)).setCell ⟨W0.heap.size, 5, none⟩ (.bool wb)).setCell ⟨W0.heap.size, 6, none⟩ (.func (.func 112) #[.agg #[.int .i64 wd, .int .i64 hi, .bool wb]] #[])) = W9 at *
                try simp only [Act.put, List.getElem_toArray, List.getElem_cons_succ, List.getElem_cons_zero, List.setIfInBounds_toArray, List.set_cons_zero, List.set_cons_succ]
                refine wpAnyH_done (by kernel_rfl) ?_ _
                go_wp2
                go_meet
                case rel => exact ⟨_, _, rfl, rfl, B6, B7, le6, le7, hH.2⟩
      · skip
        go_simp
        refine hK.out _ _ (keep1_now X (below_next hH.2 (below_new _ (.cells #[.int .i64 0, .int .i64 0, .bool false, .int .i64 0, .int .i64 0, .bool false, .nilFunc] 80)))) (fun hH2 => ?_)
        have le6 : u2.heap.size ≤ W85.heap.size := hH.2.size
        have ne76 : W0.heap.size ≠ W85.heap.size := Nat.ne_of_lt B7.lt
        replace B7 := B7.alloc (.cells #[.int .i64 0, .int .i64 0, .bool false, .int .i64 0, .int .i64 0, .bool false, .nilFunc] 80)
        have B6 := Blk.new W85 #[.int .i64 0, .int .i64 0, .bool false, .int .i64 0, .int .i64 0, .bool false, .nilFunc] 80
        clear hK K hH
        have hH := hH2; clear hH2
        generalize W85.alloc (.cells #[.int .i64 0, .int .i64 0, .bool false, .int .i64 0, .int .i64 0, .bool false, .nilFunc] 80) = W100 at *
        try simp only [Act.put, List.getElem_toArray, List.getElem_cons_succ, List.getElem_cons_zero, List.setIfInBounds_toArray, List.set_cons_zero, List.set_cons_succ]
        refine wpAnyH_ready (rs := [1]) (by kernel_rfl) (by simp) ?_
        refine AllReadyH.cons (o := _) rfl (fun K hK => ?_) (AllReadyH.nil)
        · skip
          go_simp
          (with_reducible refine (implShapeOf _ _ _ _ _ _ _ _ _ _).mono ?_)
          rintro r W101 ⟨rfl, qa⟩
          refine hK.out _ _ (keep1_later X hH qa) (fun hH2 => ?_)
          replace B7 := B7.later qa
          replace B6 := B6.later qa
          clear hK K hH qa
          have hH := hH2; clear hH2
          try simp only [Act.put, List.getElem_toArray, List.getElem_cons_succ, List.getElem_cons_zero, List.setIfInBounds_toArray, List.set_cons_zero, List.set_cons_succ]
          refine wpAnyH_ready (rs := [2]) (by kernel_rfl) (by simp) ?_
          refine AllReadyH.cons (o := _) rfl (fun K hK => ?_) (AllReadyH.nil)
          · skip
            go_simp
            (with_reducible refine (impl_mirrorCells _ _ _ _).mono ?_)
            rintro r W102 ⟨rfl, qa⟩
            refine hK.out _ _ (keep1_later X hH qa) (fun hH2 => ?_)
            replace B7 := B7.later qa
            replace B6 := B6.later qa
            clear hK K hH qa
            have hH := hH2; clear hH2
            try simp only [Act.put, List.getElem_toArray, List.getElem_cons_succ, List.getElem_cons_zero, List.setIfInBounds_toArray, List.set_cons_zero, List.set_cons_succ]
            refine wpAnyH_ready (rs := [4]) (by kernel_rfl) (by simp) ?_
            refine AllReadyH.cons (o := _) rfl (fun K hK => ?_) (AllReadyH.nil)
            · skip
              go_simp
              (with_reducible refine (implShapeOf _ _ _ _ _ _ _ _ _ _).mono ?_)
              rintro r W103 ⟨rfl, qa⟩
              refine hK.out _ _ (keep1_later X hH qa) (fun hH2 => ?_)
              replace B7 := B7.later qa
              replace B6 := B6.later qa
              clear hK K hH qa
              have hH := hH2; clear hH2
              try simp only [Act.put, List.getElem_toArray, List.getElem_cons_succ, List.getElem_cons_zero, List.setIfInBounds_toArray, List.set_cons_zero, List.set_cons_succ]
              refine wpAnyH_ready (rs := [5]) (by kernel_rfl) (by simp) ?_
              refine AllReadyH.cons (o := _) rfl (fun K hK => ?_) (AllReadyH.nil)
              · skip
                go_simp
                (with_reducible refine (impl_mirrorGaps _ _ _ _).mono ?_)
                rintro r W104 ⟨rfl, qa⟩
                refine hK.out _ _ (keep1_later X hH qa) (fun hH2 => ?_)
                replace B7 := B7.later qa
                replace B6 := B6.later qa
                clear hK K hH qa
                have hH := hH2; clear hH2
                try simp only [Act.put, List.getElem_toArray, List.getElem_cons_succ, List.getElem_cons_zero, List.setIfInBounds_toArray, List.set_cons_zero, List.set_cons_succ]
                have n67 : W85.heap.size ≠ W0.heap.size := Ne.symm ne76
                refine wpAnyH_ready (rs := [8]) (by kernel_rfl) (by simp) ?_
                refine AllReadyH.cons (o := _) rfl (fun K hK => ?_) AllReadyH.nil
                obtain ⟨sc, sf⟩ := B6.open
                go_simp
                refine hK.out _ _ (keep1_now X (below_set7 hH.2 le6)) (fun hH2 => ?_)
                clear sc sf
                have C6 := (fun x0 x1 x2 x3 x4 x5 x6 => blk_store7 (x0 := x0) (x1 := x1) (x2 := x2) (x3 := x3) (x4 := x4) (x5 := x5) (x6 := x6) B6) (.int .i64 wd) (.int .i64 hi) (.bool wb) (.int .i64 wd) (.int .i64 hi) (.bool wb) (.func (.func 111) #[.agg #[.int .i64 wd, .int .i64 hi, .bool wb]] #[])
                replace B7 := (fun x0 x1 x2 x3 x4 x5 x6 => blk_other7 (x0 := x0) (x1 := x1) (x2 := x2) (x3 := x3) (x4 := x4) (x5 := x5) (x6 := x6) B7 (Ne.symm n67)) (.int .i64 wd) (.int .i64 hi) (.bool wb) (.int .i64 wd) (.int .i64 hi) (.bool wb) (.func (.func 111) #[.agg #[.int .i64 wd, .int .i64 hi, .bool wb]] #[])
                replace B6 := C6; clear C6
                clear hK K hH
                have hH := hH2; clear hH2
                generalize (((((((W104.setCell ⟨W85.heap.size, 0, none⟩ (.int .i64 wd)).setCell ⟨W85.heap.size, 1, none⟩ (.int .i64 hi)).setCell ⟨W85.heap.size, 2, none⟩ (.bool wb)).setCell ⟨W85.heap.size, 3, none⟩ (.int .i64 wd)).setCell ⟨W85.heap.size, 4, none⟩ (.int .i64 hi)).setCell ⟨W85.heap.size, 5, none⟩ (.bool wb)).setCell ⟨W85.heap.size, 6, none⟩ (.func (.func 111) #[.agg #[.int .i64 wd, .int .i64 hi, .bool wb]] #[])) = W8 at *
                try simp only [Act.put, List.getElem_toArray, List.getElem_cons_succ, List.getElem_cons_zero, List.setIfInBounds_toArray, List.set_cons_zero, List.set_cons_succ]
                refine wpAnyH_ready (rs := [9]) (by kernel_rfl) (by simp) ?_
                refine AllReadyH.cons (o := _) rfl (fun K hK => ?_) AllReadyH.nil
                obtain ⟨sc, sf⟩ := B7.open
                go_simp
                refine hK.out _ _ (keep1_now X (below_set7 hH.2 le7)) (fun hH2 => ?_)
                clear sc sf
                have C7 := (fun x0 x1 x2 x3 x4 x5 x6 => blk_store7 (x0 := x0) (x1 := x1) (x2 := x2) (x3 := x3) (x4 := x4) (x5 := x5) (x6 := x6) B7) (.int .i64 wd) (.int .i64 hi) (.bool wb) (.int .i64 wd) (.int .i64 hi) (.bool wb) (.func (.func 112) #[.agg #[.int .i64 wd, .int .i64 hi, .bool wb]] #[])
                replace B6 := (fun x0 x1 x2 x3 x4 x5 x6 => blk_other7 (x0 := x0) (x1 := x1) (x2 := x2) (x3 := x3) (x4 := x4) (x5 := x5) (x6 := x6) B6 n67) (.int .i64 wd) (.int .i64 hi) (.bool wb) (.int .i64 wd) (.int .i64 hi) (.bool wb) (.func (.func 112) #[.agg #[.int .i64 wd, .int .i64 hi, .bool wb]] #[])
                replace B7 := C7; clear C7
                clear hK K hH
                have hH := hH2; clear hH2
                generalize (((((((W8.setCell ⟨W0.heap.size, 0, none⟩ (.int .i64 wd)).setCell ⟨W0.heap.size, 1, none⟩ (.int .i64 hi)).setCell ⟨W0.heap.size, 2, none⟩ (.bool wb)).setCell ⟨W0.heap.size, 3, none⟩ (.int .i64 wd)).setCell ⟨W0.heap.size, 4, none⟩ (.int .i64 hi)).setCell ⟨W0.heap.size, 5, none⟩ (.bool wb)).setCell ⟨W0.heap.size, 6, none⟩ (.func (.func 112) #[.agg #[.int .i64 wd, .int .i64 hi, .bool wb]] #[])) = W9 at *
                try simp only [Act.put, List.getElem_toArray, List.getElem_cons_succ, List.getElem_cons_zero, List.setIfInBounds_toArray, List.set_cons_zero, List.set_cons_succ]
                refine wpAnyH_done (by kernel_rfl) ?_ _
                go_wp2
                go_meet
                case rel => exact ⟨_, _, rfl, rfl, B6, B7, le6, le7, hH.2⟩
  case rest =>
    obtain ⟨b1, b2, rfl, rfl, V, G, lb1, lb2, q⟩ := hcut
    generalize wc = u3 at *
    have zq9 : u2.heap.size ≤ u3.heap.size := q.size
    replace X := X.later q
    replace Y := Y.later q
    replace R := R.later q
    replace HB := Lib.hid (HB.out.trans (q.mono HB.out.size))
    clear q
    obtain ⟨Vc, Vf⟩ := V.open
    obtain ⟨Gc, Gf⟩ := G.open
    obtain ⟨Yc, Yf⟩ := Y.open
    go_upto_region 4 with (fail)
    clear Vc Vf
    clear Gc Gf
    clear Yc Yf
    have zR := R.lt; have b6 := HB.out; have hR : w.heap.size ≤ w.heap.size + 1 + 1 := by omega
    have pl : ∀ f zs, 0 < (placed f n zs).length := fun f zs => by rw [placed_length]; exact n0
    have tl : ∀ f zs, 0 < (turned (placed f n zs)).length := fun f zs => by rw [turned_length, placed_length]; exact n0
    have PL := Lib.hid pl; have TL := Lib.hid tl; clear pl tl
    have neV : b1 ≠ w.heap.size + 1 + 1 := by omega
    have neG : b2 ≠ w.heap.size + 1 + 1 := by omega
    have neY : w.heap.size + 1 ≠ w.heap.size + 1 + 1 := by omega
    have tk0 : True := trivial; have tk1 : True := trivial; have tk2 : True := trivial
    go_region_held3 (fun w' => (∀ i, w'.cell? ⟨b1, i, none⟩ = (#[.int .i64 wd, .int .i64 hi, .bool wb, .int .i64 wd, .int .i64 hi, .bool wb, .func (.func 111) #[.agg #[.int .i64 wd, .int .i64 hi, .bool wb]] #[]] : Array Value)[i]?) ∧ (∀ i, w'.cell? ⟨b2, i, none⟩ = (#[.int .i64 wd, .int .i64 hi, .bool wb, .int .i64 wd, .int .i64 hi, .bool wb, .func (.func 112) #[.agg #[.int .i64 wd, .int .i64 hi, .bool wb]] #[]] : Array Value)[i]?) ∧ (∀ i, w'.cell? ⟨w.heap.size + 1, i, none⟩ = (#[.slice a0 n c0, .slice a1 n c1, .slice a2 n c2] : Array Value)[i]?) ∧ u3.grownBy w' (some (w.heap.size + 1 + 1))) (first | with_reducible exact keepR3_start V G Y | with_reducible exact keepR3_later V G Y neV neG neY (by assumption) (by assumption) | exact keepR3_set3 V G Y neV neG neY (by assumption) _ _ _)
      (first
        | (go_at_call 65; have _t := tk0; clear _t tk0; (with_reducible refine (implList_mir _ _ _ _ _ _ (mirF wd) n _ (row_heldR3 h0 b6 hR (by assumption)) s1 s2 s3 s4 HN.out HE0.out (mirF_impl s1 HN.out)).mono ?_); intro r u4 hg0; obtain ⟨g0, k0, rfl, oo0, gl0, gt0, qa0⟩ := gotL_some hg0 (PL.out _ _); clear hg0)
        | (go_at_call 65; have _t := tk1; clear _t tk1; (with_reducible refine (implList_mir _ _ _ _ _ _ (mirF wd) n _ (row_heldR3 h1 b6 hR (by assumption)) s1 s2 s3 s4 HN.out HE1.out (mirF_impl s1 HN.out)).mono ?_); intro r u5 hg1; obtain ⟨g1, k1, rfl, oo1, gl1, gt1, qa1⟩ := gotL_some hg1 (PL.out _ _); clear hg1)
        | (go_at_call 66; have _t := tk2; clear _t tk2; (with_reducible refine (implOpp_gap _ _ _ _ _ _ (gapF wd) n _ (row_heldR3 h2 b6 hR (by assumption)) s1 s2 s3 s4 HN.out HE2.out (gapF_impl s1 HN.out)).mono ?_); intro r u6 hg2; obtain ⟨g2, k2, rfl, oo2, gl2, gt2, qa2⟩ := gotL_some hg2 (TL.out _ _); clear hg2; obtain ⟨Rc, Rf⟩ := (R.later (below_next (below_next (below_next (below_drew u3) qa0) qa1) qa2)).open))
    go_wp2
    have z1 := HB.out.size; have z2 : u3.heap.size ≤ u4.heap.size := qa0.size; have z3 : u4.heap.size ≤ u5.heap.size := qa1.size; have z4 : u5.heap.size ≤ u6.heap.size := qa2.size
    have y0 : u3.heap.size ≤ g0 := gl0; have y1 : u4.heap.size ≤ g1 := gl1; have y2 : u5.heap.size ≤ g2 := gl2
    refine bodyPost_ret (v := .tuple #[.agg #[.slice (some ⟨g0, 0, none⟩) n k0, .slice (some ⟨g1, 0, none⟩) n k1, .slice (some ⟨g2, 0, none⟩) n k2], .bool true]) (by simp [results, Try.results20, go_sem, Rc]) rfl ⟨some ⟨g0, 0, none⟩, some ⟨g1, 0, none⟩, some ⟨g2, 0, none⟩, k0, k1, k2, placed (mirF wd) n e, placed (mirF wd) n x, turned (placed (gapF wd) n y), by simp only [turned_length, placed_length], (by exact ⟨(((((oo0.later (below_next qa1 qa2)).lower (show w.heap.size ≤ _ by first | omega | exact z1 | exact Nat.le_trans z1 z2 | exact Nat.le_trans z1 (Nat.le_trans z2 z3))).set (p := ⟨w.heap.size + 1 + 1, 0, none⟩) (ne_block (h := w.heap.size + 1 + 1) (by omega)) _).set (p := ⟨w.heap.size + 1 + 1, 1, none⟩) (ne_block (h := w.heap.size + 1 + 1) (by omega)) _).set (p := ⟨w.heap.size + 1 + 1, 2, none⟩) (ne_block (h := w.heap.size + 1 + 1) (by omega)) _), (((((oo1.later qa2).lower (show w.heap.size ≤ _ by first | omega | exact z1 | exact Nat.le_trans z1 z2 | exact Nat.le_trans z1 (Nat.le_trans z2 z3))).set (p := ⟨w.heap.size + 1 + 1, 0, none⟩) (ne_block (h := w.heap.size + 1 + 1) (by omega)) _).set (p := ⟨w.heap.size + 1 + 1, 1, none⟩) (ne_block (h := w.heap.size + 1 + 1) (by omega)) _).set (p := ⟨w.heap.size + 1 + 1, 2, none⟩) (ne_block (h := w.heap.size + 1 + 1) (by omega)) _), (((((oo2).lower (show w.heap.size ≤ _ by first | omega | exact z1 | exact Nat.le_trans z1 z2 | exact Nat.le_trans z1 (Nat.le_trans z2 z3))).set (p := ⟨w.heap.size + 1 + 1, 0, none⟩) (ne_block (h := w.heap.size + 1 + 1) (by omega)) _).set (p := ⟨w.heap.size + 1 + 1, 1, none⟩) (ne_block (h := w.heap.size + 1 + 1) (by omega)) _).set (p := ⟨w.heap.size + 1 + 1, 2, none⟩) (ne_block (h := w.heap.size + 1 + 1) (by omega)) _), apart_ne (by omega), apart_ne (by omega), apart_ne (by omega), is_placed q0 n256, is_placed q1 n256, is_turned q2 n256, ((((HB.out.trans ((below_next (below_next (below_next (below_drew u3) qa0) qa1) qa2).mono HB.out.size)).setCell (p := ⟨w.heap.size + 1 + 1, 0, none⟩) (by simp <;> omega) _).setCell (p := ⟨w.heap.size + 1 + 1, 1, none⟩) (by simp <;> omega) _).setCell (p := ⟨w.heap.size + 1 + 1, 2, none⟩) (by simp <;> omega) _)⟩)⟩

set_option maxHeartbeats 8000000 in
set_option maxRecDepth 100000 in
theorem specMirrorFieldL (wd hi : Int) (wb : Bool) (a b : Option Addr) (ca cb : Nat) (xs ys : List Nat) (a0 a1 a2 : Option Addr) (c0 c1 c2 : Nat) (e x y : List Nat) (w : World) (ha : RowV w a (fvals xs)) (hb : RowV w b (fvals ys)) (qa : ∀ z ∈ xs, z < 2 ^ 32) (qb : ∀ z ∈ ys, z < 2 ^ 32) (hx : xs.length ≤ maxLen) (hy : ys.length ≤ maxLen) (h0 : RowV w a0 (fvals e)) (h1 : RowV w a1 (fvals x)) (h2 : RowV w a2 (fvals y)) (q0 : ∀ z ∈ e, z < 2 ^ 32) (q1 : ∀ z ∈ x, z < 2 ^ 32) (q2 : ∀ z ∈ y, z < 2 ^ 32) (m0 : e.length ≤ maxLen) (m1 : x.length ≤ maxLen) (m2 : y.length ≤ maxLen) :
    Calls Try.prog 17 #[.agg #[.int .i64 wd, .int .i64 hi, .bool wb, .slice a xs.length ca, .slice b ys.length cb], .agg #[.slice a0 e.length c0, .slice a1 x.length c1, .slice a2 y.length c2]] w (OwnF w (fieldB wd hi wb xs ys e x y) (placed (mirF wd) (wd * hi).toNat e) (placed (mirF wd) (wd * hi).toNat x) (turned (placed (gapF wd) (wd * hi).toNat y))) := by
  have hfb := valB_split wd hi wb xs ys e x y; have HFB := Lib.hid hfb; clear hfb
  rcases hs : validB wd hi xs ys with _ | _
  · skip
    have hfbv : fieldB wd hi wb xs ys e x y = false := by rw [HFB.out, hs]; rfl
    have HBV := Lib.hid hfbv
    have H_fb := Lib.hid hfbv; clear hfbv
    have H_hs := Lib.hid hs; clear hs
    rw [HBV.out]
    have X := Blk.new w #[.int .i64 wd, .int .i64 hi, .bool wb, .slice a xs.length ca, .slice b ys.length cb] 32
    have Y := Blk.new1 w (.cells #[.int .i64 wd, .int .i64 hi, .bool wb, .slice a xs.length ca, .slice b ys.length cb] 32) #[.slice a0 e.length c0, .slice a1 x.length c1, .slice a2 y.length c2] 29
    replace X := X.alloc (.cells #[.slice a0 e.length c0, .slice a1 x.length c1, .slice a2 y.length c2] 29)
    have R := Blk.new2 w (.cells #[.int .i64 wd, .int .i64 hi, .bool wb, .slice a xs.length ca, .slice b ys.length cb] 32) (.cells #[.slice a0 e.length c0, .slice a1 x.length c1, .slice a2 y.length c2] 29) #[.slice none 0 0, .slice none 0 0, .slice none 0 0] 29
    replace X := X.alloc (.cells #[.slice none 0 0, .slice none 0 0, .slice none 0 0] 29)
    replace Y := Y.alloc (.cells #[.slice none 0 0, .slice none 0 0, .slice none 0 0] 29)
    have HB : Hid (Below w.heap.size w (((w.alloc (.cells #[.int .i64 wd, .int .i64 hi, .bool wb, .slice a xs.length ca, .slice b ys.length cb] 32)).alloc (.cells #[.slice a0 e.length c0, .slice a1 x.length c1, .slice a2 y.length c2] 29)).alloc (.cells #[.slice none 0 0, .slice none 0 0, .slice none 0 0] 29))) := Lib.hid ((((Below.refl w.heap.size w).alloc (by simp <;> omega) _).alloc (by simp <;> omega) _).alloc (by simp <;> omega) _)
    go_enter Try.func17, Try.ntmps17
    go_wp2_with fail
    generalize (((w.alloc (.cells #[.int .i64 wd, .int .i64 hi, .bool wb, .slice a xs.length ca, .slice b ys.length cb] 32)).alloc (.cells #[.slice a0 e.length c0, .slice a1 x.length c1, .slice a2 y.length c2] 29)).alloc (.cells #[.slice none 0 0, .slice none 0 0, .slice none 0 0] 29)) = u1 at *
    refine (specIs _ _ _ _ _ _ _ _ _ _ _ X (ha.later HB.out) (hb.later HB.out) hx hy).mono ?_
    rintro r u2 ⟨rfl, nq, hw⟩
    have q : Below u1.heap.size u1 u2 := by rw [hw]; exact below_drewN (Below.refl _ _) _
    clear hw
    replace X := X.later q
    replace Y := Y.later q
    replace R := R.later q
    replace HB := Lib.hid (HB.out.trans (q.mono HB.out.size))
    clear q
    rw [H_hs.out]
    obtain ⟨Xc, Xf⟩ := X.open
    obtain ⟨Rc, Rf⟩ := R.open
    go_wp2
    refine bodyPost_ret (v := .tuple #[.agg #[.slice none 0 0, .slice none 0 0, .slice none 0 0], .bool false]) (by simp [results, Try.results17, go_sem, Rc]) rfl ⟨none, none, none, 0, 0, 0, [], [], [], rfl, OwnField.none (((HB.out.setCell (p := ⟨w.heap.size + 1 + 1, 0, none⟩) (by first | omega | (simp <;> omega)) _).setCell (p := ⟨w.heap.size + 1 + 1, 1, none⟩) (by first | omega | (simp <;> omega)) _).setCell (p := ⟨w.heap.size + 1 + 1, 2, none⟩) (by first | omega | (simp <;> omega)) _)⟩
  rcases hf : fitsB wd hi wb e x y with _ | _
  · skip
    have hfbv : fieldB wd hi wb xs ys e x y = false := by rw [HFB.out, hs, hf]; rfl
    obtain ⟨s1, s2, s3, s4, t1, t2⟩ := sides_mul (valid_sides hs)
    have HBV := Lib.hid hfbv
    have H_fb := Lib.hid hfbv; clear hfbv
    have H_hs := Lib.hid hs; clear hs
    have H_hf := Lib.hid hf; clear hf
    rw [HBV.out]
    have X := Blk.new w #[.int .i64 wd, .int .i64 hi, .bool wb, .slice a xs.length ca, .slice b ys.length cb] 32
    have Y := Blk.new1 w (.cells #[.int .i64 wd, .int .i64 hi, .bool wb, .slice a xs.length ca, .slice b ys.length cb] 32) #[.slice a0 e.length c0, .slice a1 x.length c1, .slice a2 y.length c2] 29
    replace X := X.alloc (.cells #[.slice a0 e.length c0, .slice a1 x.length c1, .slice a2 y.length c2] 29)
    have R := Blk.new2 w (.cells #[.int .i64 wd, .int .i64 hi, .bool wb, .slice a xs.length ca, .slice b ys.length cb] 32) (.cells #[.slice a0 e.length c0, .slice a1 x.length c1, .slice a2 y.length c2] 29) #[.slice none 0 0, .slice none 0 0, .slice none 0 0] 29
    replace X := X.alloc (.cells #[.slice none 0 0, .slice none 0 0, .slice none 0 0] 29)
    replace Y := Y.alloc (.cells #[.slice none 0 0, .slice none 0 0, .slice none 0 0] 29)
    have HB : Hid (Below w.heap.size w (((w.alloc (.cells #[.int .i64 wd, .int .i64 hi, .bool wb, .slice a xs.length ca, .slice b ys.length cb] 32)).alloc (.cells #[.slice a0 e.length c0, .slice a1 x.length c1, .slice a2 y.length c2] 29)).alloc (.cells #[.slice none 0 0, .slice none 0 0, .slice none 0 0] 29))) := Lib.hid ((((Below.refl w.heap.size w).alloc (by simp <;> omega) _).alloc (by simp <;> omega) _).alloc (by simp <;> omega) _)
    go_enter Try.func17, Try.ntmps17
    go_wp2_with fail
    generalize (((w.alloc (.cells #[.int .i64 wd, .int .i64 hi, .bool wb, .slice a xs.length ca, .slice b ys.length cb] 32)).alloc (.cells #[.slice a0 e.length c0, .slice a1 x.length c1, .slice a2 y.length c2] 29)).alloc (.cells #[.slice none 0 0, .slice none 0 0, .slice none 0 0] 29)) = u1 at *
    refine (specIs _ _ _ _ _ _ _ _ _ _ _ X (ha.later HB.out) (hb.later HB.out) hx hy).mono ?_
    rintro r u2 ⟨rfl, nq, hw⟩
    have q : Below u1.heap.size u1 u2 := by rw [hw]; exact below_drewN (Below.refl _ _) _
    clear hw
    replace X := X.later q
    replace Y := Y.later q
    replace R := R.later q
    replace HB := Lib.hid (HB.out.trans (q.mono HB.out.size))
    clear q
    rw [H_hs.out]
    go_wp2_with fail
    refine (specFits _ _ _ _ _ _ _ _ _ _ _ _ _ _ _ _ _ _ _ _ _ X Y s1 s2 s3 s4 (h0.later HB.out) (h1.later HB.out) (h2.later HB.out) m0 m1 m2).mono ?_
    rintro r u3 ⟨rfl, nq, hw⟩
    have q : Below u2.heap.size u2 u3 := by rw [hw]; exact below_drewN (Below.refl _ _) _
    clear hw
    replace X := X.later q
    replace Y := Y.later q
    replace R := R.later q
    replace HB := Lib.hid (HB.out.trans (q.mono HB.out.size))
    clear q
    rw [H_hf.out]
    obtain ⟨Xc, Xf⟩ := X.open
    obtain ⟨Rc, Rf⟩ := R.open
    go_wp2
    refine bodyPost_ret (v := .tuple #[.agg #[.slice none 0 0, .slice none 0 0, .slice none 0 0], .bool false]) (by simp [results, Try.results17, go_sem, Rc]) rfl ⟨none, none, none, 0, 0, 0, [], [], [], rfl, OwnField.none (((HB.out.setCell (p := ⟨w.heap.size + 1 + 1, 0, none⟩) (by first | omega | (simp <;> omega)) _).setCell (p := ⟨w.heap.size + 1 + 1, 1, none⟩) (by first | omega | (simp <;> omega)) _).setCell (p := ⟨w.heap.size + 1 + 1, 2, none⟩) (by first | omega | (simp <;> omega)) _)⟩
  have hfbv : fieldB wd hi wb xs ys e x y = true := by rw [HFB.out, hs, hf]; rfl
  obtain ⟨s1, s2, s3, s4, hm2, _, _⟩ := valid_parts hs
  obtain ⟨_, _, l0, l1, l2⟩ := field_parts hfbv
  obtain ⟨n, hn⟩ := Int.eq_ofNat_of_zero_le (show 0 ≤ wd * hi by omega)
  have E0 : e.length = n := by omega
  have E1 : x.length = n := by omega
  have E2 : y.length = n := by omega
  have n256 : n ≤ 256 := by omega
  have n0 : 0 < n := by
    have := Int.mul_le_mul s1 s3 (by omega) (by omega); omega
  have HBV := Lib.hid hfbv
  rw [hfbv]
  have H_fb := Lib.hid hfbv; clear hfbv
  have H_hs := Lib.hid hs; clear hs
  have H_hf := Lib.hid hf; clear hf
  clear hm2 l0 l1 l2
  have HN := Lib.hid hn; have HE0 := Lib.hid E0; have HE1 := Lib.hid E1; have HE2 := Lib.hid E2
  rw [show (wd * hi).toNat = n by rw [hn]; rfl]
  have CV : ∀ u, Below w.heap.size w u → Blk u w.heap.size #[.int .i64 wd, .int .i64 hi, .bool wb, .slice a xs.length ca, .slice b ys.length cb] 32 → Calls Try.prog 57 #[.pointer (some ⟨w.heap.size, 0, none⟩)] u fun e w' => e = .returned (.bool true) ∧ Below u.heap.size u w' := fun u hu X => by
    have := specIs w.heap.size wd hi wb a b ca cb xs ys u X (ha.later hu) (hb.later hu) hx hy
    rw [H_hs.out] at this
    exact this.mono fun e w' ⟨h, nq, hw⟩ => ⟨h, by rw [hw]; exact below_drewN (Below.refl _ _) _⟩
  have CV2 : ∀ u, Below w.heap.size w u → Blk u w.heap.size #[.int .i64 wd, .int .i64 hi, .bool wb, .slice a xs.length ca, .slice b ys.length cb] 32 → Blk u (w.heap.size + 1) #[.slice a0 n c0, .slice a1 n c1, .slice a2 n c2] 29 → Calls Try.prog 58 #[.pointer (some ⟨w.heap.size, 0, none⟩), .pointer (some ⟨w.heap.size + 1, 0, none⟩)] u fun e w' => e = .returned (.bool true) ∧ Below u.heap.size u w' := fun u hu X Y => by
    have := specFits w.heap.size (w.heap.size + 1) wd hi wb a b ca cb xs ys a0 a1 a2 c0 c1 c2 e x y u X (by rw [E0, E1, E2]; exact Y) s1 s2 s3 s4 (h0.later hu) (h1.later hu) (h2.later hu) m0 m1 m2
    rw [H_hf.out] at this
    exact this.mono fun e w' ⟨h, nq, hw⟩ => ⟨h, by rw [hw]; exact below_drewN (Below.refl _ _) _⟩
  have HCV2 := Lib.hid CV2; clear CV2
  have HCV := Lib.hid CV; clear CV
  rw [E0, E1, E2]; clear E0 E1 E2 hn
  have X := Blk.new w #[.int .i64 wd, .int .i64 hi, .bool wb, .slice a xs.length ca, .slice b ys.length cb] 32
  have Y := Blk.new1 w (.cells #[.int .i64 wd, .int .i64 hi, .bool wb, .slice a xs.length ca, .slice b ys.length cb] 32) #[.slice a0 n c0, .slice a1 n c1, .slice a2 n c2] 29
  replace X := X.alloc (.cells #[.slice a0 n c0, .slice a1 n c1, .slice a2 n c2] 29)
  have R := Blk.new2 w (.cells #[.int .i64 wd, .int .i64 hi, .bool wb, .slice a xs.length ca, .slice b ys.length cb] 32) (.cells #[.slice a0 n c0, .slice a1 n c1, .slice a2 n c2] 29) #[.slice none 0 0, .slice none 0 0, .slice none 0 0] 29
  replace X := X.alloc (.cells #[.slice none 0 0, .slice none 0 0, .slice none 0 0] 29)
  replace Y := Y.alloc (.cells #[.slice none 0 0, .slice none 0 0, .slice none 0 0] 29)
  have HB : Hid (Below w.heap.size w (((w.alloc (.cells #[.int .i64 wd, .int .i64 hi, .bool wb, .slice a xs.length ca, .slice b ys.length cb] 32)).alloc (.cells #[.slice a0 n c0, .slice a1 n c1, .slice a2 n c2] 29)).alloc (.cells #[.slice none 0 0, .slice none 0 0, .slice none 0 0] 29))) := Lib.hid ((((Below.refl w.heap.size w).alloc (by simp <;> omega) _).alloc (by simp <;> omega) _).alloc (by simp <;> omega) _)
  go_enter Try.func17, Try.ntmps17
  go_wp2_with fail
  generalize (((w.alloc (.cells #[.int .i64 wd, .int .i64 hi, .bool wb, .slice a xs.length ca, .slice b ys.length cb] 32)).alloc (.cells #[.slice a0 n c0, .slice a1 n c1, .slice a2 n c2] 29)).alloc (.cells #[.slice none 0 0, .slice none 0 0, .slice none 0 0] 29)) = u1 at *
  have zr := R.lt
  refine (HCV.out _ HB.out X).mono ?_
  rintro r u2 ⟨rfl, q⟩
  replace X := X.later q
  replace Y := Y.later q
  replace R := R.later q
  replace HB := Lib.hid (HB.out.trans (q.mono HB.out.size))
  clear q
  go_wp2_with fail
  refine (HCV2.out _ HB.out X Y).mono ?_
  rintro r u3 ⟨rfl, q⟩
  replace X := X.later q
  replace Y := Y.later q
  replace R := R.later q
  replace HB := Lib.hid (HB.out.trans (q.mono HB.out.size))
  clear q
  have zR2 := R.lt
  have pl : ∀ f zs, 0 < (placed f n zs).length := fun f zs => by rw [placed_length]; exact n0
  have tl : ∀ f zs, 0 < (turned (placed f n zs)).length := fun f zs => by rw [turned_length, placed_length]; exact n0
  have PL := Lib.hid pl; have TL := Lib.hid tl; clear pl tl
  have C0 : ∀ u, Below w.heap.size w u → Calls Try.prog 59 #[.slice a0 n c0, .int .i64 wd, .int .i64 hi, .int .i64 0, .int .i64 0, .int .i64 0] u (GotL u n (placed (mirF wd) n e)) := fun u hu => by
    have := specPlace0 a0 c0 e wd hi 0 0 (mirF wd) n u (h0.later hu) s1 s2 s3 s4 HN.out HE0.out (mirF_spec s1 HN.out)
    rw [HE0.out] at this; exact this
  have CC0 := Lib.hid C0; clear C0
  have C1 : ∀ u, Below w.heap.size w u → Calls Try.prog 59 #[.slice a1 n c1, .int .i64 wd, .int .i64 hi, .int .i64 0, .int .i64 0, .int .i64 0] u (GotL u n (placed (mirF wd) n x)) := fun u hu => by
    have := specPlace0 a1 c1 x wd hi 0 0 (mirF wd) n u (h1.later hu) s1 s2 s3 s4 HN.out HE1.out (mirF_spec s1 HN.out)
    rw [HE1.out] at this; exact this
  have CC1 := Lib.hid C1; clear C1
  have C2 : ∀ u, Below w.heap.size w u → Calls Try.prog 59 #[.slice a2 n c2, .int .i64 wd, .int .i64 hi, .int .i64 1, .int .i64 0, .int .i64 0] u (GotL u n (turned (placed (gapF wd) n y))) := fun u hu => by
    have := specPlace1 a2 c2 y wd hi 0 0 (gapF wd) n u (h2.later hu) s1 s2 s3 s4 HN.out HE2.out (gapF_spec s1 HN.out)
    rw [HE2.out] at this; exact this
  have CC2 := Lib.hid C2; clear C2
  obtain ⟨Xc, Xf⟩ := X.open
  obtain ⟨Yc, Yf⟩ := Y.open
  go_wp2_with fail
  refine (CC0.out _ HB.out).mono ?_
  intro r u4 hgot
  obtain ⟨g0, k0, rfl, W0, gl0, gt0, q⟩ := gotL_some hgot (PL.out _ _); clear hgot
  have zq0 := q.size
  replace W0 := Lib.hid W0
  clear Xc Xf
  clear Yc Yf
  replace X := X.later q
  replace Y := Y.later q
  replace R := R.later q
  replace HB := Lib.hid (HB.out.trans (q.mono HB.out.size))
  clear q
  have BX := Blk.new u4 #[.slice (some ⟨g0, 0, none⟩) n k0, .slice none 0 0, .slice none 0 0] 29
  have q := below_new u4 (.cells #[.slice (some ⟨g0, 0, none⟩) n k0, .slice none 0 0, .slice none 0 0] 29)
  replace X := X.later q
  replace Y := Y.later q
  replace R := R.later q
  replace W0 := Lib.hid (W0.out.later q)
  replace HB := Lib.hid (HB.out.trans (q.mono HB.out.size))
  clear q
  go_upto_region 4 with (fail)
  generalize u4.alloc (.cells #[.slice (some ⟨g0, 0, none⟩) n k0, .slice none 0 0, .slice none 0 0] 29) = u5 at *
  have zb : u4.heap.size < u5.heap.size := BX.lt
  obtain ⟨Xc, Xf⟩ := X.open
  obtain ⟨Yc, Yf⟩ := Y.open
  go_wp2_with fail
  refine (CC1.out _ HB.out).mono ?_
  intro r u6 hgot
  obtain ⟨g1, k1, rfl, W1, gl1, gt1, q⟩ := gotL_some hgot (PL.out _ _); clear hgot
  have zq1 := q.size
  replace W1 := Lib.hid W1
  clear Xc Xf
  clear Yc Yf
  replace X := X.later q
  replace Y := Y.later q
  replace R := R.later q
  replace BX := BX.later q
  replace W0 := Lib.hid (W0.out.later q)
  replace HB := Lib.hid (HB.out.trans (q.mono HB.out.size))
  clear q
  obtain ⟨BXc, BXf⟩ := BX.open
  go_upto_region 5 with (fail)
  clear BXc BXf
  have ot := out_set u6 u4.heap.size 1 (.slice (some ⟨g1, 0, none⟩) n k1)
  replace X := X.out ot (by omega)
  replace Y := Y.out ot (by omega)
  replace R := R.out ot (by omega)
  replace W0 := Lib.hid (W0.out.outside ot (lo := _) (hi := _) (fun x hx => by cases hx; exact ⟨Nat.le_refl g0, Nat.lt_succ_self g0⟩) (by omega))
  replace W1 := Lib.hid (W1.out.outside ot (lo := _) (hi := _) (fun x hx => by cases hx; exact ⟨Nat.le_refl g1, Nat.lt_succ_self g1⟩) (by omega))
  replace BX : Blk (u6.setCell ⟨u4.heap.size, 1, none⟩ (.slice (some ⟨g1, 0, none⟩) n k1)) u4.heap.size #[.slice (some ⟨g0, 0, none⟩) n k0, .slice (some ⟨g1, 0, none⟩) n k1, .slice none 0 0] 29 := BX.set 1 _
  replace HB := Lib.hid (HB.out.setCell (p := ⟨u4.heap.size, 1, none⟩) (by dsimp only; omega) (.slice (some ⟨g1, 0, none⟩) n k1))
  clear ot
  have ts7 : u6.heap.size ≤ (u6.setCell ⟨u4.heap.size, 1, none⟩ (.slice (some ⟨g1, 0, none⟩) n k1)).heap.size := by simp
  generalize u6.setCell ⟨u4.heap.size, 1, none⟩ (.slice (some ⟨g1, 0, none⟩) n k1) = u7 at *
  obtain ⟨Xc, Xf⟩ := X.open
  obtain ⟨Yc, Yf⟩ := Y.open
  go_wp2_with fail
  refine (CC2.out _ HB.out).mono ?_
  intro r u8 hgot
  obtain ⟨g2, k2, rfl, W2, gl2, gt2, q⟩ := gotL_some hgot (TL.out _ _); clear hgot
  have zq2 := q.size
  replace W2 := Lib.hid W2
  clear Xc Xf
  clear Yc Yf
  replace X := X.later q
  replace Y := Y.later q
  replace R := R.later q
  replace BX := BX.later q
  replace W0 := Lib.hid (W0.out.later q)
  replace W1 := Lib.hid (W1.out.later q)
  replace HB := Lib.hid (HB.out.trans (q.mono HB.out.size))
  clear q
  obtain ⟨BXc, BXf⟩ := BX.open
  go_upto_region 6 with (fail)
  clear BXc BXf
  have ot := out_set u8 u4.heap.size 2 (.slice (some ⟨g2, 0, none⟩) n k2)
  replace X := X.out ot (by omega)
  replace Y := Y.out ot (by omega)
  replace R := R.out ot (by omega)
  replace W0 := Lib.hid (W0.out.outside ot (lo := _) (hi := _) (fun x hx => by cases hx; exact ⟨Nat.le_refl g0, Nat.lt_succ_self g0⟩) (by omega))
  replace W1 := Lib.hid (W1.out.outside ot (lo := _) (hi := _) (fun x hx => by cases hx; exact ⟨Nat.le_refl g1, Nat.lt_succ_self g1⟩) (by omega))
  replace W2 := Lib.hid (W2.out.outside ot (lo := _) (hi := _) (fun x hx => by cases hx; exact ⟨Nat.le_refl g2, Nat.lt_succ_self g2⟩) (by omega))
  replace BX : Blk (u8.setCell ⟨u4.heap.size, 2, none⟩ (.slice (some ⟨g2, 0, none⟩) n k2)) u4.heap.size #[.slice (some ⟨g0, 0, none⟩) n k0, .slice (some ⟨g1, 0, none⟩) n k1, .slice (some ⟨g2, 0, none⟩) n k2] 29 := BX.set 2 _
  replace HB := Lib.hid (HB.out.setCell (p := ⟨u4.heap.size, 2, none⟩) (by dsimp only; omega) (.slice (some ⟨g2, 0, none⟩) n k2))
  clear ot
  have ts9 : u8.heap.size ≤ (u8.setCell ⟨u4.heap.size, 2, none⟩ (.slice (some ⟨g2, 0, none⟩) n k2)).heap.size := by simp
  generalize u8.setCell ⟨u4.heap.size, 2, none⟩ (.slice (some ⟨g2, 0, none⟩) n k2) = u9 at *
  obtain ⟨BXc, BXf⟩ := BX.open
  obtain ⟨Rc, Rf⟩ := R.open
  go_wp2
  have z9 := HB.out.size
  refine bodyPost_ret (v := .tuple #[.agg #[.slice (some ⟨g0, 0, none⟩) n k0, .slice (some ⟨g1, 0, none⟩) n k1, .slice (some ⟨g2, 0, none⟩) n k2], .bool true]) (by simp [results, Try.results17, go_sem, Rc]) rfl ⟨some ⟨g0, 0, none⟩, some ⟨g1, 0, none⟩, some ⟨g2, 0, none⟩, k0, k1, k2, placed (mirF wd) n e, placed (mirF wd) n x, turned (placed (gapF wd) n y), by simp only [turned_length, placed_length], (GotField.own ⟨((((W0.out.lower (show w.heap.size ≤ _ by omega)).set (p := ⟨w.heap.size + 1 + 1, 0, none⟩) (ne_block (h := w.heap.size + 1 + 1) (by omega)) _).set (p := ⟨w.heap.size + 1 + 1, 1, none⟩) (ne_block (h := w.heap.size + 1 + 1) (by omega)) _).set (p := ⟨w.heap.size + 1 + 1, 2, none⟩) (ne_block (h := w.heap.size + 1 + 1) (by omega)) _), ((((W1.out.lower (show w.heap.size ≤ _ by omega)).set (p := ⟨w.heap.size + 1 + 1, 0, none⟩) (ne_block (h := w.heap.size + 1 + 1) (by omega)) _).set (p := ⟨w.heap.size + 1 + 1, 1, none⟩) (ne_block (h := w.heap.size + 1 + 1) (by omega)) _).set (p := ⟨w.heap.size + 1 + 1, 2, none⟩) (ne_block (h := w.heap.size + 1 + 1) (by omega)) _), ((((W2.out.lower (show w.heap.size ≤ _ by omega)).set (p := ⟨w.heap.size + 1 + 1, 0, none⟩) (ne_block (h := w.heap.size + 1 + 1) (by omega)) _).set (p := ⟨w.heap.size + 1 + 1, 1, none⟩) (ne_block (h := w.heap.size + 1 + 1) (by omega)) _).set (p := ⟨w.heap.size + 1 + 1, 2, none⟩) (ne_block (h := w.heap.size + 1 + 1) (by omega)) _), apart_ne (by omega), apart_ne (by omega), apart_ne (by omega), is_placed q0 n256, is_placed q1 n256, is_turned q2 n256, (((HB.out.setCell (p := ⟨w.heap.size + 1 + 1, 0, none⟩) (by first | omega | (simp <;> omega)) _).setCell (p := ⟨w.heap.size + 1 + 1, 1, none⟩) (by first | omega | (simp <;> omega)) _).setCell (p := ⟨w.heap.size + 1 + 1, 2, none⟩) (by first | omega | (simp <;> omega)) _)⟩)⟩

end Go.Proofs.Ytkcododhfliobab
