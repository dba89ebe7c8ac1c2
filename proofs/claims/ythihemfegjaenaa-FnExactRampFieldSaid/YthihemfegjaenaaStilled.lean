/- Sheets in which some cells have no speed: the program's function. Conditions: none beyond those of each theorem. -/
import Derived.Test.YthihemfegjaenaaChanged
import Derived.Test.YthihemfegjaenaaPlan
namespace Go.Proofs.Ythihemfegjaenaa
open Go Ieee Go.RowKit
set_option linter.unusedVariables false

theorem implAlways (z : Nat) (w : World) : Calls Try.prog 123 #[.float .f32 z] w fun e w' => ∃ g, e = .returned (.func (.func 139) #[] #[.pointer (some ⟨g, 0, none⟩)]) ∧ Blk w' g #[.float .f32 z] 36 ∧ w.heap.size ≤ g ∧ Below w.heap.size w w' := by
  have B := Blk.new w #[.float .f32 z] 36
  have HB : Hid (Below w.heap.size w (w.alloc (.cells #[.float .f32 z] 36))) := Lib.hid (below_new _ _)
  go_enter Try.func123, Try.ntmps123
  go_wp2
  go_ret
  exact ⟨_, rfl, B, Nat.le_refl _, HB.out⟩

theorem implAlways1 (g z x : Nat) (u v : Int) (w : World) (B : Blk w g #[.float .f32 z] 36) : Calls Try.prog 139 #[.agg #[.int .i64 u, .int .i64 v], .float .f32 x, .pointer (some ⟨g, 0, none⟩)] w fun e w' => e = .returned (.float .f32 z) ∧ Below w.heap.size w w' := by
  have B1 := B.alloc (.cells #[.int .i64 u, .int .i64 v] 81)
  have HB : Hid (Below w.heap.size w (w.alloc (.cells #[.int .i64 u, .int .i64 v] 81))) := Lib.hid (below_new _ _)
  obtain ⟨Bc, Bf⟩ := B1.open
  go_enter Try.func139, Try.ntmps139
  go_wp2
  go_ret
  exact ⟨rfl, HB.out⟩

theorem cloneN (ba oa ca n : Nat) (xs : List Nat) (w : World) (ha : RowV w (some ⟨ba, oa, none⟩) (fvals xs)) (hx : xs.length = n) (n0 : 0 < n) (n256 : n ≤ 256) : Calls Try.prog 72 #[.slice (some ⟨ba, oa, none⟩) n ca] w fun e w' => ∃ g c', e = .returned (.slice (some ⟨g, 0, none⟩) n c') ∧ OwnV w' w.heap.size (some ⟨g, 0, none⟩) (fvals xs) ∧ Below w.heap.size w w' := by
  have := implClone ba oa ca xs w ha (by omega) (by omega)
  rw [hx] at this; exact this

theorem always_zero {p : Nat → Bool} {n : Nat} {wd : Int} {xs : List Nat} (gb z : Nat) (v : World) (B : Blk v gb #[.float .f32 z] 36) (hz : z < 2 ^ 32) : ∀ i : Nat, i < n → p i = true → ∀ w', Below v.heap.size v w' → Calls Try.prog 139 (#[] ++ #[.agg #[.int .i64 ((i : Int) % wd), .int .i64 ((i : Int) / wd)], .float .f32 (xs.getD i 0)] ++ #[.pointer (some ⟨gb, 0, none⟩)]) w' fun e w'' => ∃ y, e = .returned (.float .f32 y) ∧ canon .f32 y = (fun _ => canon .f32 z) i ∧ y < 2 ^ 32 ∧ Below w'.heap.size w' w'' := by
  intro i _ _ w' hw'
  exact (implAlways1 gb z (xs.getD i 0) ((i : Int) % wd) ((i : Int) / wd) w' (B.later hw')).mono fun e w'' ⟨h1, h2⟩ => ⟨z, h1, rfl, hz, h2⟩

set_option maxHeartbeats 8000000 in
set_option maxRecDepth 100000 in
theorem implStilled (wd hi : Int) (wb : Bool) (ba oa ca bb ob cb n : Nat) (xs ys : List Nat) (fm : FuncId) (r1 k1 : Array Value) (p : Nat → Bool) (w : World) (ha : RowV w (some ⟨ba, oa, none⟩) (fvals xs)) (hb : RowV w (some ⟨bb, ob, none⟩) (fvals ys)) (qa : ∀ z ∈ xs, z < 2 ^ 32) (hx : xs.length = n) (hy : ys.length = n) (s1 : 3 ≤ wd) (s2 : wd ≤ 16) (n0 : 0 < n) (n256 : n ≤ 256) (gM : IsGo fm)
    (hM : ∀ i : Nat, i < n → ∀ w', Below w.heap.size w w' → Calls Try.prog fm (r1 ++ #[.agg #[.int .i64 ((i : Int) % wd), .int .i64 ((i : Int) / wd)]] ++ k1) w' fun e w'' => e = .returned (.bool (p i)) ∧ Below w'.heap.size w' w'') :
    Calls Try.prog 84 #[.agg #[.int .i64 wd, .int .i64 hi, .bool wb, .slice (some ⟨ba, oa, none⟩) n ca, .slice (some ⟨bb, ob, none⟩) n cb], .func (.func fm) r1 k1] w fun e w' => ∃ g0 g1 c0 c1 L, e = .returned (.agg #[.int .i64 wd, .int .i64 hi, .bool wb, .slice (some ⟨g0, 0, none⟩) n c0, .slice (some ⟨g1, 0, none⟩) n c1]) ∧ OwnV w' w.heap.size (some ⟨g0, 0, none⟩) (fvals L) ∧ OwnV w' w.heap.size (some ⟨g1, 0, none⟩) (fvals ys) ∧ L.length = n ∧ Is L (chgC p (fun _ => canon .f32 0) xs) ∧ g0 ≠ g1 ∧ Below w.heap.size w w' := by
  have HX := Lib.hid hx; have HY := Lib.hid hy; have HM := Lib.hid hM; clear hM hx hy
  have X := Blk.new w #[.int .i64 wd, .int .i64 hi, .bool wb, .slice (some ⟨ba, oa, none⟩) n ca, .slice (some ⟨bb, ob, none⟩) n cb] 29
  have R := Blk.new1 w (.cells #[.int .i64 wd, .int .i64 hi, .bool wb, .slice (some ⟨ba, oa, none⟩) n ca, .slice (some ⟨bb, ob, none⟩) n cb] 29) #[.int .i64 0, .int .i64 0, .bool false, .slice none 0 0, .slice none 0 0] 29
  replace X := X.alloc (.cells #[.int .i64 0, .int .i64 0, .bool false, .slice none 0 0, .slice none 0 0] 29)
  have HB : Hid (Below w.heap.size w ((w.alloc (.cells #[.int .i64 wd, .int .i64 hi, .bool wb, .slice (some ⟨ba, oa, none⟩) n ca, .slice (some ⟨bb, ob, none⟩) n cb] 29)).alloc (.cells #[.int .i64 0, .int .i64 0, .bool false, .slice none 0 0, .slice none 0 0] 29))) := Lib.hid (((Below.refl w.heap.size w).alloc (by simp <;> omega) _).alloc (by simp <;> omega) _)
  go_enter Try.func84, Try.ntmps84
  go_upto_region 1 with (fail)
  generalize ((w.alloc (.cells #[.int .i64 wd, .int .i64 hi, .bool wb, .slice (some ⟨ba, oa, none⟩) n ca, .slice (some ⟨bb, ob, none⟩) n cb] 29)).alloc (.cells #[.int .i64 0, .int .i64 0, .bool false, .slice none 0 0, .slice none 0 0] 29)) = u1 at *
  have HBU := HB.out; have zr := R.lt; have zu := HBU.size
  have aslc : ∀ w, (isAgg 22).run Try.prog w = .ok false w := fun w => by kernel_rfl
  obtain ⟨Xc, Xf⟩ := X.open
  refine wp_region_noPanic ?_
  refine wp_region_plan (Grows u1) 11 [(0, true), (2, true), (3, true), (4, true), (7, true), (8, true), (1, false), (5, false), (6, false), (10, true), (9, false)] (by kernel_rfl) (by kernel_rfl) (fun _ _ _ _ _ h => h) (Grows.drew _) ?_
  (refine plan_load rfl rfl _ rfl (_) (fun w' hw' => run_loadVar_row w' _ _ _ _ _ _ (X.later hw') Try.underlying29 rfl (by kernel_rfl)) ?_; simp only [Act.put, List.setIfInBounds_toArray, List.set_cons_zero, List.set_cons_succ])
  (refine plan_plain rfl rfl ?_ ?_ ?_; rotate_left; focus (intro w9; go_simp <;> with_reducible rfl)); (simp only [Act.put, List.setIfInBounds_toArray, List.set_cons_zero, List.set_cons_succ])
  (refine plan_load rfl rfl _ rfl (.slice (some ⟨ba, oa, none⟩) n ca) (load_cell aslc (Xc 3)) ?_; simp only [Act.put, List.setIfInBounds_toArray, List.set_cons_zero, List.set_cons_succ])
  (refine plan_plain rfl rfl ?_ ?_ ?_; rotate_left; focus (intro w9; go_simp <;> with_reducible rfl)); (simp only [Act.put, List.setIfInBounds_toArray, List.set_cons_zero, List.set_cons_succ])
  (refine plan_plain rfl rfl ?_ ?_ ?_; rotate_left; focus (intro w9; go_simp <;> with_reducible rfl)); (simp only [Act.put, List.setIfInBounds_toArray, List.set_cons_zero, List.set_cons_succ])
  (refine plan_load rfl rfl _ rfl (.slice (some ⟨bb, ob, none⟩) n cb) (load_cell aslc (Xc 4)) ?_; simp only [Act.put, List.setIfInBounds_toArray, List.set_cons_zero, List.set_cons_succ])
  have w0 := Grows.drew u1
  generalize u1.drew = v0 at *
  refine plan_call rfl rfl 54 #[] #[] rfl _ Try.func54 (by kernel_rfl) (by kernel_rfl) [.agg #[.int .i64 wd, .int .i64 hi, .bool wb, .slice (some ⟨ba, oa, none⟩) n ca, .slice (some ⟨bb, ob, none⟩) n cb]] (by kernel_rfl) #[.agg #[.int .i64 wd, .int .i64 hi, .bool wb, .slice (some ⟨ba, oa, none⟩) n ca, .slice (some ⟨bb, ob, none⟩) n cb]] (by simp) _ (implShapeOf wd hi wb _ _ n n ca cb v0) ?_
  rintro e v1 ⟨rfl, b⟩
  refine ⟨_, rfl, w0.next b, ?_⟩
  simp only [Act.put, List.setIfInBounds_toArray, List.set_cons_zero, List.set_cons_succ]
  have w1 := w0.next b; clear b w0
  refine plan_call rfl rfl 123 #[] #[] rfl _ Try.func123 (by kernel_rfl) (by kernel_rfl) [.float .f32 0] (by kernel_rfl) #[.float .f32 0] (by simp) _ (implAlways 0 v1) ?_
  rintro e v2 ⟨gb, rfl, B, gbl, b⟩
  refine ⟨_, rfl, w1.next b, ?_⟩
  simp only [Act.put, List.setIfInBounds_toArray, List.set_cons_zero, List.set_cons_succ]
  have w2 := w1.next b; clear b w1
  have ha2 := ha.later (HBU.trans (Below.mono w2 zu))
  have HCH := implChanged wd hi wb ba oa ca n xs fm 139 r1 k1 #[] #[.pointer (some ⟨gb, 0, none⟩)] p (fun _ => canon .f32 0) v2 ha2 qa HX.out s1 s2 n0 n256 gM (by exact ⟨_, rfl, by kernel_rfl, by kernel_rfl⟩) (fun i hi w' hw' => HM.out i hi w' ((HBU.trans (Below.mono w2 zu)).trans (hw'.mono (HBU.trans (Below.mono w2 zu)).size))) (always_zero (p := p) (n := n) (wd := wd) (xs := xs) gb 0 v2 B (by decide))
  refine plan_call rfl rfl 73 #[] #[] rfl _ Try.func73 (by kernel_rfl) (by kernel_rfl) [.agg #[.int .i64 wd, .int .i64 hi, .bool wb], .slice (some ⟨ba, oa, none⟩) n ca, .func (.func fm) r1 k1, .func (.func 139) #[] #[.pointer (some ⟨gb, 0, none⟩)]] (by kernel_rfl) #[.agg #[.int .i64 wd, .int .i64 hi, .bool wb], .slice (some ⟨ba, oa, none⟩) n ca, .func (.func fm) r1 k1, .func (.func 139) #[] #[.pointer (some ⟨gb, 0, none⟩)]] (by simp) _ (HCH) ?_
  rintro e v3 ⟨g0, c0, L, rfl, o0, hL, hI, b⟩
  refine ⟨_, rfl, w2.next b, ?_⟩
  simp only [Act.put, List.setIfInBounds_toArray, List.set_cons_zero, List.set_cons_succ]
  have w3 := w2.next b; clear HCH
  (refine plan_plain rfl rfl ?_ ?_ ?_; rotate_left; focus (intro w9; go_simp <;> with_reducible rfl)); (simp only [Act.put, List.setIfInBounds_toArray, List.set_cons_zero, List.set_cons_succ])
  have hb3 := hb.later (HBU.trans (Below.mono w3 zu))
  refine plan_call rfl rfl 72 #[] #[] rfl _ Try.func72 (by kernel_rfl) (by kernel_rfl) [.slice (some ⟨bb, ob, none⟩) n cb] (by kernel_rfl) #[.slice (some ⟨bb, ob, none⟩) n cb] (by simp) _ (cloneN bb ob cb n ys v3 hb3 HY.out n0 n256) ?_
  rintro e v4 ⟨g1, c1, rfl, o1, b4⟩
  refine ⟨_, rfl, w3.next b4, ?_⟩
  simp only [Act.put, List.setIfInBounds_toArray, List.set_cons_zero, List.set_cons_succ]
  have w4 := w3.next b4
  change wpList _ _ _ _ _ _
  simp only [List.drop_succ_cons, List.drop_zero]
  have sz2 : u1.heap.size ≤ v2.heap.size := Below.size w2; have sz3 : u1.heap.size ≤ v3.heap.size := Below.size w3; have sz34 := b4.size
  have y0 := o0.bound g0 rfl; have y1 := o1.bound g1 rfl
  have z0 := (o0.span _ rfl).2; dsimp only at z0
  have ne01 : g0 ≠ g1 := by omega
  have O0 := Lib.hid ((o0.later b4).lower (show w.heap.size ≤ v2.heap.size by omega)); have O1 := Lib.hid (o1.lower (show w.heap.size ≤ v3.heap.size by omega)); clear o0 o1
  have HB4 := Lib.hid (HBU.trans (Below.mono w4 zu))
  have X4 := X.later w4; have R4 := R.later w4
  have HI := Lib.hid hI; have HL := Lib.hid hL; clear hI hL ha2 hb3 B b b4 w2 w3 w4 Xc Xf X R HB HM
  obtain ⟨Xc, Xf⟩ := X4.open; obtain ⟨Rc, Rf⟩ := R4.open
  go_wp2_with fail
  refine NoPanic.normal ?_
  go_wp2
  refine bodyPost_ret (v := .agg #[.int .i64 wd, .int .i64 hi, .bool wb, .slice (some ⟨g0, 0, none⟩) n c0, .slice (some ⟨g1, 0, none⟩) n c1]) (by simp [results, Try.results84, go_sem, Rc]) rfl ⟨g0, g1, c0, c1, L, rfl, (((((((O0.out.set (p := ⟨w.heap.size, 3, none⟩) (ne_block (h := w.heap.size) (by omega)) _).set (p := ⟨w.heap.size, 4, none⟩) (ne_block (h := w.heap.size) (by omega)) _).set (p := ⟨w.heap.size + 1, 0, none⟩) (ne_block (h := w.heap.size + 1) (by omega)) _).set (p := ⟨w.heap.size + 1, 1, none⟩) (ne_block (h := w.heap.size + 1) (by omega)) _).set (p := ⟨w.heap.size + 1, 2, none⟩) (ne_block (h := w.heap.size + 1) (by omega)) _).set (p := ⟨w.heap.size + 1, 3, none⟩) (ne_block (h := w.heap.size + 1) (by omega)) _).set (p := ⟨w.heap.size + 1, 4, none⟩) (ne_block (h := w.heap.size + 1) (by omega)) _), (((((((O1.out.set (p := ⟨w.heap.size, 3, none⟩) (ne_block (h := w.heap.size) (by omega)) _).set (p := ⟨w.heap.size, 4, none⟩) (ne_block (h := w.heap.size) (by omega)) _).set (p := ⟨w.heap.size + 1, 0, none⟩) (ne_block (h := w.heap.size + 1) (by omega)) _).set (p := ⟨w.heap.size + 1, 1, none⟩) (ne_block (h := w.heap.size + 1) (by omega)) _).set (p := ⟨w.heap.size + 1, 2, none⟩) (ne_block (h := w.heap.size + 1) (by omega)) _).set (p := ⟨w.heap.size + 1, 3, none⟩) (ne_block (h := w.heap.size + 1) (by omega)) _).set (p := ⟨w.heap.size + 1, 4, none⟩) (ne_block (h := w.heap.size + 1) (by omega)) _), HL.out, HI.out, ne01, (((((((HB4.out.setCell (p := ⟨w.heap.size, 3, none⟩) (by first | omega | (simp <;> omega)) _).setCell (p := ⟨w.heap.size, 4, none⟩) (by first | omega | (simp <;> omega)) _).setCell (p := ⟨w.heap.size + 1, 0, none⟩) (by first | omega | (simp <;> omega)) _).setCell (p := ⟨w.heap.size + 1, 1, none⟩) (by first | omega | (simp <;> omega)) _).setCell (p := ⟨w.heap.size + 1, 2, none⟩) (by first | omega | (simp <;> omega)) _).setCell (p := ⟨w.heap.size + 1, 3, none⟩) (by first | omega | (simp <;> omega)) _).setCell (p := ⟨w.heap.size + 1, 4, none⟩) (by first | omega | (simp <;> omega)) _)⟩

end Go.Proofs.Ythihemfegjaenaa
