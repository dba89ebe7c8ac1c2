/- Sheets with losses that grow towards the edges: the program's answer and the model's. Conditions: none beyond those of each theorem. -/
import Derived.Test.YthihemfegjaenaaRamp
import Derived.Test.YthihemfegjaenaaSht
import Derived.Test.YthihemfegjaenaaOwnS
namespace Go.Proofs.Ythihemfegjaenaa
open Go Ieee Go.RowKit
set_option linter.unusedVariables false
set_option linter.unusedSimpArgs false

/-! ### No not-a-number comes -/
theorem fin_one {x : Nat} (h : inB 1065353216 x = true) : isFin .f32 x ∧ canon .f32 x = some x := by
  unfold inB at h
  simp only [Bool.and_eq_true, Bool.not_eq_true'] at h
  obtain ⟨h0, h1⟩ := h
  have hn : isN .f32 x = false := by
    rcases e : isN .f32 x with _ | _
    · rfl
    · unfold geB at h0; rw [order_nan_left e] at h0; cases h0
  have n1 : isN .f32 1065353216 = false := by decide +kernel
  have n0 : isN .f32 0 = false := by decide +kernel
  have k1 : ¬ key FloatKind.f32.format 1065353216 < key FloatKind.f32.format x := by
    unfold gtB at h1; rw [cmp_gt .f32 hn n1] at h1
    exact of_decide_eq_false h1
  have k0 : key FloatKind.f32.format 0 ≤ key FloatKind.f32.format x := by
    unfold geB at h0
    rw [cmp_gt .f32 hn n0, cmp_eq .f32 hn n0] at h0
    simp only [Bool.or_eq_true, decide_eq_true_eq] at h0
    omega
  rw [key_val 1065353216, if_neg (by decide)] at k1
  rw [key_val 0, if_neg (by decide)] at k0
  have e := key_val x
  have hr : x % 2147483648 ≤ 1065353216 := by
    by_cases hs : (x / 2147483648 % 2 == 1) = true
    · rw [if_pos hs] at e; omega
    · rw [if_neg hs] at e; omega
  refine ⟨?_, canon_of_not hn⟩
  show x % 2147483648 < 2139095040
  omega

theorem mul_fin {x y : Nat} (hx : isFin .f32 x) (hy : isFin .f32 y) : ∃ z, fop .mul .f32 (some x) (some y) = some z := by
  obtain ⟨m, p, e1, _⟩ := fin_read hx
  obtain ⟨n, q, e2, _⟩ := fin_read hy
  exact Option.isSome_iff_exists.1 (show (FloatKind.f32.format.mul x y).isSome = true by unfold Format.mul; rw [e1, e2]; rfl)

theorem add_some {x y : Nat} (hx : isFin .f32 x) (hy : (FloatKind.f32.decode y).isNaN = false) : ∃ z, fop .add .f32 (some x) (some y) = some z := by
  obtain ⟨m, p, e1, _⟩ := fin_read hx
  have hy' : (FloatKind.f32.format.read y).isNaN = false := hy
  rcases hd : FloatKind.f32.format.read y with ⟨s, n, q⟩ | ⟨s⟩ | ⟨s, t⟩
  · exact Option.isSome_iff_exists.1 (show (FloatKind.f32.format.add x y).isSome = true by unfold Format.add; rw [e1, hd]; rfl)
  · exact Option.isSome_iff_exists.1 (show (FloatKind.f32.format.add x y).isSome = true by unfold Format.add; rw [e1, hd]; rfl)
  · rw [hd] at hy'; cases hy'

theorem part_sq : ∀ w ∈ List.range 17, ∀ c ∈ List.range 17, 1 ≤ w → 1 ≤ c → c ≤ w → (match fop .mul .f32 (partC w c) (partC w c) with | some r => decide (r % 2147483648 < 2139095040) | none => false) = true := by
  decide +kernel

def gradeN (lo mo : Nat) (wi d : Int) : Option Nat := fop .add .f32 (canon .f32 lo) (fop .mul .f32 (canon .f32 mo) (fop .mul .f32 (partC wi (wi - d)) (partC wi (wi - d))))
theorem grade_num {lo mo : Nat} {wi d : Int} (h1 : inB 1065353216 lo = true) (h2 : inB 1065353216 mo = true) (w1 : 1 ≤ wi) (w2 : wi ≤ 16) (d0 : 0 ≤ d) (d1 : d < wi) : ∃ z, gradeN lo mo wi d = some z := by
  obtain ⟨f1, c1⟩ := fin_one h1
  obtain ⟨f2, c2⟩ := fin_one h2
  obtain ⟨a, rfl⟩ := Int.eq_ofNat_of_zero_le (show 0 ≤ wi by omega)
  obtain ⟨c, hc⟩ := Int.eq_ofNat_of_zero_le (show 0 ≤ (a : Int) - d by omega)
  have h := part_sq a (List.mem_range.2 (by omega)) c (List.mem_range.2 (by omega)) (by omega) (by omega) (by omega)
  unfold gradeN
  rw [c1, c2, hc]
  rcases hr : fop .mul .f32 (partC (a : Int) (c : Int)) (partC (a : Int) (c : Int)) with _ | r
  · rw [hr] at h; cases h
  · rw [hr] at h
    have h9 : decide (r % 2147483648 < 2139095040) = true := h
    have hf : isFin .f32 r := (of_decide_eq_true h9 : r % 2147483648 < 2139095040)
    obtain ⟨p, hp⟩ := mul_fin f2 hf
    rw [hp]
    exact add_some f1 (floatBits_notNaN (op := .mul) (a := mo) (b := r) hp)

theorem order_some {z : Nat} (h : canon .f32 z ≠ none) : FloatKind.f32.format.order z 1065353216 ≠ none := by
  have n1 : isN .f32 1065353216 = false := by decide +kernel
  have hn : isN .f32 z = false := by
    rcases e : isN .f32 z with _ | _
    · rfl
    · exact absurd (canon_none.2 e) h
  rw [order_key .f32 hn n1]; intro e; cases e

theorem grade_bits {z : Nat} {S : Option Nat} (h : canon .f32 z = S) : canon .f32 (if FloatKind.f32.format.order z 1065353216 = some .gt then 1065353216 else z) = gradeS S := by
  unfold gradeS
  have hone : canon .f32 1065353216 = some 1065353216 := by decide +kernel
  have ho : FloatKind.f32.format.order z 1065353216 = ford .f32 S (some 1065353216) := by rw [order_canon, h, hone]
  rw [ho]
  split
  · exact hone
  · exact h

theorem run_min_one {P : Program} (w : World) (ts : Array TypeId) (t : TypeId) (x : Nat) (hx : x < 2 ^ 32) (h : FloatKind.f32.format.order x 1065353216 ≠ none) : (Builtin.min_ ts t #[.float .f32 x, .float .f32 1065353216]).run P w = .ok (.float .f32 (if FloatKind.f32.format.order x 1065353216 = some .gt then 1065353216 else x)) w := by
  rcases ho : FloatKind.f32.format.order x 1065353216 with _ | _ | _ | _
  · exact absurd ho h
  · simp [Builtin.min_, Builtin.min2, ho]
  · have hx1 : x = 1065353216 := same_one hx ho
    subst hx1
    simp [Builtin.min_, Builtin.min2, ho]
  · simp [Builtin.min_, Builtin.min2, ho]

def gradeB (wd hi : Int) (xs ys : List Nat) (wi : Int) (mo : Nat) : Bool := validB wd hi xs ys && (widthB wi && inB 1065353216 mo)
def gradeG (wd hi wi : Int) (mo : Nat) (ys : List Nat) (i : Nat) : Option Nat := gradeC (ys.getD i 0) mo wi (depI wd hi ((i : Int) % wd) ((i : Int) / wd))

set_option maxHeartbeats 4000000 in
set_option maxRecDepth 100000 in
theorem implGrade1 (gw gh gm lo mo : Nat) (wd hi wi x y : Int) (wb : Bool) (w : World) (H : Blk w gh #[.int .i64 wd, .int .i64 hi, .bool wb] 78) (W : Blk w gw #[.int .i64 wi] 2) (MB : Blk w gm #[.float .f32 mo] 36) (s1 : 3 ≤ wd) (s2 : wd ≤ 16) (s3 : 3 ≤ hi) (s4 : hi ≤ 16) (x0 : 0 ≤ x) (x1 : x < wd) (y0 : 0 ≤ y) (y1 : y < hi) (w1 : 1 ≤ wi) (w2 : wi ≤ 16) (hdl : depI wd hi x y < wi) (h1 : inB 1065353216 lo = true) (h2 : inB 1065353216 mo = true) :
    Calls Try.prog 68 #[.agg #[.int .i64 x, .int .i64 y], .float .f32 lo, .pointer (some ⟨gw, 0, none⟩), .pointer (some ⟨gh, 0, none⟩), .pointer (some ⟨gm, 0, none⟩)] w fun r w' => ∃ v, r = .returned (.float .f32 v) ∧ canon .f32 v = gradeC lo mo wi (depI wd hi x y) ∧ v < 2 ^ 32 ∧ Below w.heap.size w w' := by
  have ai64 : ∀ w, (isAgg 2).run Try.prog w = .ok false w := fun w => by kernel_rfl
  have af32 : ∀ w, (isAgg 36).run Try.prog w = .ok false w := fun w => by kernel_rfl
  have hd0 := (dep_in (wd := wd) (hi := hi) ⟨x0, x1, y0, y1⟩).1
  obtain ⟨S, hS⟩ := grade_num h1 h2 w1 w2 hd0 hdl
  have HS := Lib.hid hS; clear hS h1 h2
  have C := Blk.new w #[.int .i64 x, .int .i64 y] 81
  have HB : Hid (Below w.heap.size w (w.alloc (.cells #[.int .i64 x, .int .i64 y] 81))) := Lib.hid ((Below.refl w.heap.size w).alloc (by simp <;> omega) _)
  go_enter Try.func68, Try.ntmps68
  go_wp2_with fail
  generalize (w.alloc (.cells #[.int .i64 x, .int .i64 y] 81)) = u1 at *
  replace H := H.later HB.out; replace W := W.later HB.out; replace MB := MB.later HB.out
  obtain ⟨Wc, Wf⟩ := W.open; obtain ⟨Mc, Mf⟩ := MB.open
  generalize hd : depI wd hi x y = d at *
  have HDD := Lib.hid hd; clear hd
  refine wp_region_relC (Grows u1) (SpFl d wi (wi - d)) (by kernel_rfl) (by kernel_rfl) (Grows.drew _) ?_
  (refine wpRel_load rfl _ rfl (.int .i64 wi) (load_cell ai64 (Wc 0)) ?_; simp only [Act.put, List.setIfInBounds_toArray, List.set_cons_zero, List.set_cons_succ])
  (refine wpRel_load rfl _ rfl (.int .i64 wi) (load_cell ai64 (Wc 0)) ?_; simp only [Act.put, List.setIfInBounds_toArray, List.set_cons_zero, List.set_cons_succ])
  (refine wpRel_load rfl _ rfl (_) (fun w' hw' => run_loadVar_row w' _ _ _ _ _ _ (H.later hw') Try.underlying78 rfl (by kernel_rfl)) ?_; simp only [Act.put, List.setIfInBounds_toArray, List.set_cons_zero, List.set_cons_succ])
  (refine wpRel_load rfl _ rfl (_) (fun w' hw' => run_loadVar_row w' _ _ _ _ _ _ (C.later hw') Try.underlying81 rfl (by kernel_rfl)) ?_; simp only [Act.put, List.setIfInBounds_toArray, List.set_cons_zero, List.set_cons_succ])
  (refine wpRel_callC rfl 70 _ rfl Try.func70 (by kernel_rfl) (by kernel_rfl) [.agg #[.int .i64 wd, .int .i64 hi, .bool wb], .agg #[.int .i64 x, .int .i64 y]] rfl (fun w' hw' => (implDepth wd hi x y wb w' s1 s2 s3 s4 x0 x1 y0 y1).mono (by rintro e w'' ⟨rfl, q9⟩; exact ⟨_, rfl, by rw [HDD.out]; exact toDep, hw'.next q9⟩)) ?_; intro v hv; obtain rfl := spDep hv; simp only [Act.put, List.setIfInBounds_toArray, List.set_cons_zero, List.set_cons_succ])
  (refine wpRel_plain rfl rfl ?_; intro K hK; go_big_quiet_op; (first | go_big_quiet_on | (refine ⟨_, fun _ _ => rfl, ?_⟩; go_big_quiet_on)))
  (refine wpRel_callC rfl 69 _ rfl Try.func69 (by kernel_rfl) (by kernel_rfl) [.int .i64 wi, .int .i64 (wi - d)] rfl (fun w' hw' => (implPart wi (wi - d) w').mono (by rintro e w'' ⟨z, rfl, hz, hzl, q9⟩; exact ⟨_, rfl, toPart hz hzl, hw'.next q9⟩)) ?_; intro v hv; obtain ⟨g, rfl, hg, hgl⟩ := spPart hv; have HG := Lib.hid hg; clear hg hv; simp only [Act.put, List.setIfInBounds_toArray, List.set_cons_zero, List.set_cons_succ])
  (refine wpRel_plain rfl rfl ?_; intro K hK; go_big_quiet_op; (first | go_big_quiet_on | (refine ⟨_, fun _ _ => rfl, ?_⟩; go_big_quiet_on)))
  refine wpRel_nil ?_
  intro u3 hw'
  replace hw' : Below u1.heap.size u1 u3 := hw'
  replace MB := MB.later hw'; replace HB := Lib.hid (HB.out.trans (hw'.mono HB.out.size)); clear hw' Wc Wf Mc Mf H W C
  obtain ⟨Mc, Mf⟩ := MB.open
  go_wp2_with fail
  refine wp_region_relC (Grows u3) (SpFl d wi (wi - d)) (by kernel_rfl) (by kernel_rfl) (Grows.drew _) ?_
  (refine wpRel_plain rfl rfl ?_; intro K hK; go_big_quiet_op; (first | go_big_quiet_on | (refine ⟨_, fun _ _ => rfl, ?_⟩; go_big_quiet_on)))
  (refine wpRel_load rfl _ rfl (.float .f32 mo) (load_cell af32 (Mc 0)) ?_; simp only [Act.put, List.setIfInBounds_toArray, List.set_cons_zero, List.set_cons_succ])
  (refine wpRel_plain rfl rfl ?_; intro K hK; go_big_quiet_op; (first | go_big_quiet_on | (refine ⟨_, fun _ _ => rfl, ?_⟩; go_big_quiet_on)))
  (refine wpRel_plain rfl rfl ?_; intro K hK; go_big_quiet_op; (first | go_big_quiet_on | (refine ⟨_, fun _ _ => rfl, ?_⟩; go_big_quiet_on)))
  (refine wpRel_callC rfl 71 _ rfl Try.func71 (by kernel_rfl) (by kernel_rfl) [.float .f32 g, .float .f32 g] rfl (fun w' hw' => (mulB g g w').mono (by rintro e w'' ⟨z, rfl, hz, hzl, q9⟩; exact ⟨_, rfl, toMul hz hzl, hw'.next q9⟩)) ?_; intro v hv; obtain ⟨z1, rfl, hc_z1, hb_z1⟩ := spMul hv; have H_z1 := Lib.hid hc_z1; clear hc_z1 hv; simp only [Act.put, List.setIfInBounds_toArray, List.set_cons_zero, List.set_cons_succ])
  (refine wpRel_callC rfl 71 _ rfl Try.func71 (by kernel_rfl) (by kernel_rfl) [.float .f32 mo, .float .f32 z1] rfl (fun w' hw' => (mulB mo z1 w').mono (by rintro e w'' ⟨z, rfl, hz, hzl, q9⟩; exact ⟨_, rfl, toMul hz hzl, hw'.next q9⟩)) ?_; intro v hv; obtain ⟨z2, rfl, hc_z2, hb_z2⟩ := spMul hv; have H_z2 := Lib.hid hc_z2; clear hc_z2 hv; simp only [Act.put, List.setIfInBounds_toArray, List.set_cons_zero, List.set_cons_succ])
  (refine wpRel_arithC rfl rfl (fun _ n h => Grows.drewN n h) .f32 _ _ rfl rfl ?_; intro z3 hc_z3 hb_z3; have H_z3 := Lib.hid hc_z3; clear hc_z3; replace hb_z3 : z3 < 2 ^ 32 := hb_z3; simp only [Act.put, List.setIfInBounds_toArray, List.set_cons_zero, List.set_cons_succ])
  have HZ : Hid (canon .f32 z3 = gradeN lo mo wi d) := Lib.hid (by unfold gradeN; rw [H_z3.out, H_z2.out, H_z1.out, HG.out])
  have hmin : ∀ w ts t, (Builtin.min_ ts t #[.float .f32 z3, .float .f32 1065353216]).run Try.prog w = .ok (.float .f32 (if FloatKind.f32.format.order z3 1065353216 = some .gt then 1065353216 else z3)) w := fun w ts t => run_min_one w ts t z3 hb_z3 (order_some (by rw [HZ.out, HS.out]; intro e; cases e))
  have hvb : (if FloatKind.f32.format.order z3 1065353216 = some .gt then 1065353216 else z3) < 2 ^ 32 := (by by_cases h9 : FloatKind.f32.format.order z3 1065353216 = some .gt; (rw [if_pos h9]; decide); (rw [if_neg h9]; exact hb_z3))
  have HV := Lib.hid (grade_bits (S := gradeN lo mo wi d) HZ.out)
  generalize (if FloatKind.f32.format.order z3 1065353216 = some .gt then 1065353216 else z3) = vv at *
  (refine wpRel_run rfl (.float .f32 vv) (fun w9 => ?_) ?_; focus (go_simp <;> with_reducible rfl)); simp only [Act.put, List.setIfInBounds_toArray, List.set_cons_zero, List.set_cons_succ]
  clear hmin
  (refine wpRel_plain rfl rfl ?_; intro K hK; go_big_quiet_op; (first | go_big_quiet_on | (refine ⟨_, fun _ _ => rfl, ?_⟩; go_big_quiet_on)))
  refine wpRel_nil ?_
  intro u4 hw'
  replace hw' : Below u3.heap.size u3 u4 := hw'
  go_wp2
  go_ret
  exact ⟨vv, rfl, by rw [HDD.out, HV.out]; rfl, hvb, HB.out.trans (hw'.mono HB.out.size)⟩

set_option maxHeartbeats 8000000 in
set_option maxRecDepth 100000 in
theorem implGradeLossesL (wd hi : Int) (wb : Bool) (a b : Option Addr) (ca cb : Nat) (xs ys : List Nat) (wi : Int) (mo : Nat) (w : World) (ha : RowV w a (fvals xs)) (hb : RowV w b (fvals ys)) (qa : ∀ z ∈ xs, z < 2 ^ 32) (qb : ∀ z ∈ ys, z < 2 ^ 32) (hx : xs.length ≤ maxLen) (hy : ys.length ≤ maxLen) (w1 : (Lit.int .i64 wi).wf = true) (wz : mo < 2 ^ 32) :
    Calls Try.prog 21 #[.agg #[.int .i64 wd, .int .i64 hi, .bool wb, .slice a xs.length ca, .slice b ys.length cb], .int .i64 wi, .float .f32 mo] w (GaveSh w (gradeB wd hi xs ys wi mo) wd hi wb (cl xs) (chgC (nearP wd hi wi) (gradeG wd hi wi mo ys) ys)) := by
  rcases hv : validB wd hi xs ys with _ | _
  · skip
    refine Calls.mono ?_ (fun e w9 h9 => gave_no (by unfold gradeB; rw [hv]; rfl) h9)
    have H_v := Lib.hid hv; clear hv
    have X := Blk.new w #[.int .i64 wd, .int .i64 hi, .bool wb, .slice a xs.length ca, .slice b ys.length cb] 29
    have V := Blk.new1 w (.cells #[.int .i64 wd, .int .i64 hi, .bool wb, .slice a xs.length ca, .slice b ys.length cb] 29) #[.int .i64 wi] 2
    replace X := X.alloc (.cells #[.int .i64 wi] 2)
    have U := Blk.new2 w (.cells #[.int .i64 wd, .int .i64 hi, .bool wb, .slice a xs.length ca, .slice b ys.length cb] 29) (.cells #[.int .i64 wi] 2) #[.float .f32 mo] 36
    replace X := X.alloc (.cells #[.float .f32 mo] 36)
    replace V := V.alloc (.cells #[.float .f32 mo] 36)
    have R := Blk.new3 w (.cells #[.int .i64 wd, .int .i64 hi, .bool wb, .slice a xs.length ca, .slice b ys.length cb] 29) (.cells #[.int .i64 wi] 2) (.cells #[.float .f32 mo] 36) #[.int .i64 0, .int .i64 0, .bool false, .slice none 0 0, .slice none 0 0] 29
    replace X := X.alloc (.cells #[.int .i64 0, .int .i64 0, .bool false, .slice none 0 0, .slice none 0 0] 29)
    replace V := V.alloc (.cells #[.int .i64 0, .int .i64 0, .bool false, .slice none 0 0, .slice none 0 0] 29)
    replace U := U.alloc (.cells #[.int .i64 0, .int .i64 0, .bool false, .slice none 0 0, .slice none 0 0] 29)
    have HB : Hid (Below w.heap.size w ((((w.alloc (.cells #[.int .i64 wd, .int .i64 hi, .bool wb, .slice a xs.length ca, .slice b ys.length cb] 29)).alloc (.cells #[.int .i64 wi] 2)).alloc (.cells #[.float .f32 mo] 36)).alloc (.cells #[.int .i64 0, .int .i64 0, .bool false, .slice none 0 0, .slice none 0 0] 29))) := Lib.hid (((((Below.refl w.heap.size w).alloc (by simp <;> omega) _).alloc (by simp <;> omega) _).alloc (by simp <;> omega) _).alloc (by simp <;> omega) _)
    go_enter Try.func21, Try.ntmps21
    go_wp2_with fail
    generalize ((((w.alloc (.cells #[.int .i64 wd, .int .i64 hi, .bool wb, .slice a xs.length ca, .slice b ys.length cb] 29)).alloc (.cells #[.int .i64 wi] 2)).alloc (.cells #[.float .f32 mo] 36)).alloc (.cells #[.int .i64 0, .int .i64 0, .bool false, .slice none 0 0, .slice none 0 0] 29)) = u1 at *
    refine (implValidSheet _ _ _ _ _ _ _ _ _ _ (ha.later HB.out) (hb.later HB.out) hx hy).mono ?_
    rintro r u2 ⟨rfl, q⟩
    replace X := X.later q
    replace V := V.later q
    replace U := U.later q
    replace R := R.later q
    replace HB := Lib.hid (HB.out.trans (q.mono HB.out.size))
    clear q
    rw [H_v.out]
    obtain ⟨Rc, Rf⟩ := R.open
    go_wp2
    refine bodyPost_ret (v := .tuple #[.agg #[.int .i64 0, .int .i64 0, .bool false, .slice none 0 0, .slice none 0 0], .bool false]) (by simp [results, Try.results21, go_sem, Rc]) rfl ⟨none, none, 0, 0, [], [], rfl, GotSheet.none (((((HB.out.setCell (p := ⟨w.heap.size + 1 + 1 + 1, 0, none⟩) (by first | omega | (simp <;> omega)) _).setCell (p := ⟨w.heap.size + 1 + 1 + 1, 1, none⟩) (by first | omega | (simp <;> omega)) _).setCell (p := ⟨w.heap.size + 1 + 1 + 1, 2, none⟩) (by first | omega | (simp <;> omega)) _).setCell (p := ⟨w.heap.size + 1 + 1 + 1, 3, none⟩) (by first | omega | (simp <;> omega)) _).setCell (p := ⟨w.heap.size + 1 + 1 + 1, 4, none⟩) (by first | omega | (simp <;> omega)) _)⟩
  have HB0 : Hid (gradeB wd hi xs ys wi mo = (widthB wi && inB 1065353216 mo)) := Lib.hid (by unfold gradeB; rw [hv]; rfl)
  have HLO : Hid (ys.all (inB 1065353216) = true) := Lib.hid (by unfold validB at hv; simp only [Bool.and_eq_true] at hv; exact hv.2.2.2.2)
  obtain ⟨s1, s2, s3, s4, hm2, lx, ly⟩ := valid_parts hv
  obtain ⟨t1, t2⟩ := (sides_mul (valid_sides hv)).2.2.2.2
  obtain ⟨n, hn⟩ := Int.eq_ofNat_of_zero_le (show 0 ≤ wd * hi by omega)
  have hxn : xs.length = n := by omega
  have hyn : ys.length = n := by omega
  have n256 : n ≤ 256 := by omega
  have n0 : 0 < n := by omega
  obtain ⟨ba, oa, rfl, hz0⟩ := ha 0 _ (fvals_get (show 0 < xs.length by omega)); clear hz0
  obtain ⟨bb, ob, rfl, hz1⟩ := hb 0 _ (fvals_get (show 0 < ys.length by omega)); clear hz1
  have CV : ∀ u, Below w.heap.size w u → Calls Try.prog 55 #[.agg #[.int .i64 wd, .int .i64 hi, .bool wb, .slice (some ⟨ba, oa, none⟩) n ca, .slice (some ⟨bb, ob, none⟩) n cb]] u fun e w' => e = .returned (.bool true) ∧ Below u.heap.size u w' := fun u hu => by
    have := implValidSheet wd hi wb _ _ ca cb xs ys u (ha.later hu) (hb.later hu) hx hy
    rw [hxn, hyn, hv] at this; exact this
  have HCV := Lib.hid CV; clear CV
  rw [hxn, hyn]
  have HN := Lib.hid hn; have HX := Lib.hid hxn; have HY := Lib.hid hyn; clear hn hxn hyn hv lx ly t1 t2
  rcases h0 : widthB wi with _ | _
  · skip
    refine Calls.mono ?_ (fun e w9 h9 => gave_no (by rw [HB0.out, h0]; rfl) h9)
    have HW := Lib.hid h0; clear h0
    have X := Blk.new w #[.int .i64 wd, .int .i64 hi, .bool wb, .slice (some ⟨ba, oa, none⟩) n ca, .slice (some ⟨bb, ob, none⟩) n cb] 29
    have V := Blk.new1 w (.cells #[.int .i64 wd, .int .i64 hi, .bool wb, .slice (some ⟨ba, oa, none⟩) n ca, .slice (some ⟨bb, ob, none⟩) n cb] 29) #[.int .i64 wi] 2
    replace X := X.alloc (.cells #[.int .i64 wi] 2)
    have U := Blk.new2 w (.cells #[.int .i64 wd, .int .i64 hi, .bool wb, .slice (some ⟨ba, oa, none⟩) n ca, .slice (some ⟨bb, ob, none⟩) n cb] 29) (.cells #[.int .i64 wi] 2) #[.float .f32 mo] 36
    replace X := X.alloc (.cells #[.float .f32 mo] 36)
    replace V := V.alloc (.cells #[.float .f32 mo] 36)
    have R := Blk.new3 w (.cells #[.int .i64 wd, .int .i64 hi, .bool wb, .slice (some ⟨ba, oa, none⟩) n ca, .slice (some ⟨bb, ob, none⟩) n cb] 29) (.cells #[.int .i64 wi] 2) (.cells #[.float .f32 mo] 36) #[.int .i64 0, .int .i64 0, .bool false, .slice none 0 0, .slice none 0 0] 29
    replace X := X.alloc (.cells #[.int .i64 0, .int .i64 0, .bool false, .slice none 0 0, .slice none 0 0] 29)
    replace V := V.alloc (.cells #[.int .i64 0, .int .i64 0, .bool false, .slice none 0 0, .slice none 0 0] 29)
    replace U := U.alloc (.cells #[.int .i64 0, .int .i64 0, .bool false, .slice none 0 0, .slice none 0 0] 29)
    have HB : Hid (Below w.heap.size w ((((w.alloc (.cells #[.int .i64 wd, .int .i64 hi, .bool wb, .slice (some ⟨ba, oa, none⟩) n ca, .slice (some ⟨bb, ob, none⟩) n cb] 29)).alloc (.cells #[.int .i64 wi] 2)).alloc (.cells #[.float .f32 mo] 36)).alloc (.cells #[.int .i64 0, .int .i64 0, .bool false, .slice none 0 0, .slice none 0 0] 29))) := Lib.hid (((((Below.refl w.heap.size w).alloc (by simp <;> omega) _).alloc (by simp <;> omega) _).alloc (by simp <;> omega) _).alloc (by simp <;> omega) _)
    go_enter Try.func21, Try.ntmps21
    go_wp2_with fail
    generalize ((((w.alloc (.cells #[.int .i64 wd, .int .i64 hi, .bool wb, .slice (some ⟨ba, oa, none⟩) n ca, .slice (some ⟨bb, ob, none⟩) n cb] 29)).alloc (.cells #[.int .i64 wi] 2)).alloc (.cells #[.float .f32 mo] 36)).alloc (.cells #[.int .i64 0, .int .i64 0, .bool false, .slice none 0 0, .slice none 0 0] 29)) = u1 at *
    refine (HCV.out _ HB.out).mono ?_
    rintro r u2 ⟨rfl, q⟩
    replace X := X.later q
    replace V := V.later q
    replace U := U.later q
    replace R := R.later q
    replace HB := Lib.hid (HB.out.trans (q.mono HB.out.size))
    clear q
    obtain ⟨Vc, Vf⟩ := V.open
    go_wp2_with fail
    refine (implWidth _ _).mono ?_
    rintro r w9 ⟨rfl, rfl⟩
    rw [HW.out]
    clear Vc Vf
    obtain ⟨Rc, Rf⟩ := R.open
    go_wp2
    refine bodyPost_ret (v := .tuple #[.agg #[.int .i64 0, .int .i64 0, .bool false, .slice none 0 0, .slice none 0 0], .bool false]) (by simp [results, Try.results21, go_sem, Rc]) rfl ⟨none, none, 0, 0, [], [], rfl, GotSheet.none (((((HB.out.setCell (p := ⟨w.heap.size + 1 + 1 + 1, 0, none⟩) (by first | omega | (simp <;> omega)) _).setCell (p := ⟨w.heap.size + 1 + 1 + 1, 1, none⟩) (by first | omega | (simp <;> omega)) _).setCell (p := ⟨w.heap.size + 1 + 1 + 1, 2, none⟩) (by first | omega | (simp <;> omega)) _).setCell (p := ⟨w.heap.size + 1 + 1 + 1, 3, none⟩) (by first | omega | (simp <;> omega)) _).setCell (p := ⟨w.heap.size + 1 + 1 + 1, 4, none⟩) (by first | omega | (simp <;> omega)) _)⟩
  rcases h1 : inB 1065353216 mo with _ | _
  · skip
    refine Calls.mono ?_ (fun e w9 h9 => gave_no (by rw [HB0.out, h0, h1]; rfl) h9)
    have HW := Lib.hid h0; clear h0; have HL := Lib.hid h1; clear h1
    have X := Blk.new w #[.int .i64 wd, .int .i64 hi, .bool wb, .slice (some ⟨ba, oa, none⟩) n ca, .slice (some ⟨bb, ob, none⟩) n cb] 29
    have V := Blk.new1 w (.cells #[.int .i64 wd, .int .i64 hi, .bool wb, .slice (some ⟨ba, oa, none⟩) n ca, .slice (some ⟨bb, ob, none⟩) n cb] 29) #[.int .i64 wi] 2
    replace X := X.alloc (.cells #[.int .i64 wi] 2)
    have U := Blk.new2 w (.cells #[.int .i64 wd, .int .i64 hi, .bool wb, .slice (some ⟨ba, oa, none⟩) n ca, .slice (some ⟨bb, ob, none⟩) n cb] 29) (.cells #[.int .i64 wi] 2) #[.float .f32 mo] 36
    replace X := X.alloc (.cells #[.float .f32 mo] 36)
    replace V := V.alloc (.cells #[.float .f32 mo] 36)
    have R := Blk.new3 w (.cells #[.int .i64 wd, .int .i64 hi, .bool wb, .slice (some ⟨ba, oa, none⟩) n ca, .slice (some ⟨bb, ob, none⟩) n cb] 29) (.cells #[.int .i64 wi] 2) (.cells #[.float .f32 mo] 36) #[.int .i64 0, .int .i64 0, .bool false, .slice none 0 0, .slice none 0 0] 29
    replace X := X.alloc (.cells #[.int .i64 0, .int .i64 0, .bool false, .slice none 0 0, .slice none 0 0] 29)
    replace V := V.alloc (.cells #[.int .i64 0, .int .i64 0, .bool false, .slice none 0 0, .slice none 0 0] 29)
    replace U := U.alloc (.cells #[.int .i64 0, .int .i64 0, .bool false, .slice none 0 0, .slice none 0 0] 29)
    have HB : Hid (Below w.heap.size w ((((w.alloc (.cells #[.int .i64 wd, .int .i64 hi, .bool wb, .slice (some ⟨ba, oa, none⟩) n ca, .slice (some ⟨bb, ob, none⟩) n cb] 29)).alloc (.cells #[.int .i64 wi] 2)).alloc (.cells #[.float .f32 mo] 36)).alloc (.cells #[.int .i64 0, .int .i64 0, .bool false, .slice none 0 0, .slice none 0 0] 29))) := Lib.hid (((((Below.refl w.heap.size w).alloc (by simp <;> omega) _).alloc (by simp <;> omega) _).alloc (by simp <;> omega) _).alloc (by simp <;> omega) _)
    go_enter Try.func21, Try.ntmps21
    go_wp2_with fail
    generalize ((((w.alloc (.cells #[.int .i64 wd, .int .i64 hi, .bool wb, .slice (some ⟨ba, oa, none⟩) n ca, .slice (some ⟨bb, ob, none⟩) n cb] 29)).alloc (.cells #[.int .i64 wi] 2)).alloc (.cells #[.float .f32 mo] 36)).alloc (.cells #[.int .i64 0, .int .i64 0, .bool false, .slice none 0 0, .slice none 0 0] 29)) = u1 at *
    refine (HCV.out _ HB.out).mono ?_
    rintro r u2 ⟨rfl, q⟩
    replace X := X.later q
    replace V := V.later q
    replace U := U.later q
    replace R := R.later q
    replace HB := Lib.hid (HB.out.trans (q.mono HB.out.size))
    clear q
    obtain ⟨Vc, Vf⟩ := V.open
    go_wp2_with fail
    refine (implWidth _ _).mono ?_
    rintro r w9 ⟨rfl, rfl⟩
    rw [HW.out]
    clear Vc Vf
    obtain ⟨Uc, Uf⟩ := U.open
    go_wp2_with fail
    refine (impl_isLoss _ _).mono ?_
    rintro r w9 ⟨rfl, rfl⟩
    rw [HL.out]
    clear Uc Uf
    obtain ⟨Rc, Rf⟩ := R.open
    go_wp2
    refine bodyPost_ret (v := .tuple #[.agg #[.int .i64 0, .int .i64 0, .bool false, .slice none 0 0, .slice none 0 0], .bool false]) (by simp [results, Try.results21, go_sem, Rc]) rfl ⟨none, none, 0, 0, [], [], rfl, GotSheet.none (((((HB.out.setCell (p := ⟨w.heap.size + 1 + 1 + 1, 0, none⟩) (by first | omega | (simp <;> omega)) _).setCell (p := ⟨w.heap.size + 1 + 1 + 1, 1, none⟩) (by first | omega | (simp <;> omega)) _).setCell (p := ⟨w.heap.size + 1 + 1 + 1, 2, none⟩) (by first | omega | (simp <;> omega)) _).setCell (p := ⟨w.heap.size + 1 + 1 + 1, 3, none⟩) (by first | omega | (simp <;> omega)) _).setCell (p := ⟨w.heap.size + 1 + 1 + 1, 4, none⟩) (by first | omega | (simp <;> omega)) _)⟩
  have HBT : Hid (gradeB wd hi xs ys wi mo = true) := Lib.hid (by rw [HB0.out, h0, h1]; rfl)
  obtain ⟨wi1, wi2⟩ : 1 ≤ wi ∧ wi ≤ 16 := of_decide_eq_true h0
  have HW := Lib.hid h0; clear h0; have HL := Lib.hid h1; clear h1
  have X := Blk.new w #[.int .i64 wd, .int .i64 hi, .bool wb, .slice (some ⟨ba, oa, none⟩) n ca, .slice (some ⟨bb, ob, none⟩) n cb] 29
  have V := Blk.new1 w (.cells #[.int .i64 wd, .int .i64 hi, .bool wb, .slice (some ⟨ba, oa, none⟩) n ca, .slice (some ⟨bb, ob, none⟩) n cb] 29) #[.int .i64 wi] 2
  replace X := X.alloc (.cells #[.int .i64 wi] 2)
  have U := Blk.new2 w (.cells #[.int .i64 wd, .int .i64 hi, .bool wb, .slice (some ⟨ba, oa, none⟩) n ca, .slice (some ⟨bb, ob, none⟩) n cb] 29) (.cells #[.int .i64 wi] 2) #[.float .f32 mo] 36
  replace X := X.alloc (.cells #[.float .f32 mo] 36)
  replace V := V.alloc (.cells #[.float .f32 mo] 36)
  have R := Blk.new3 w (.cells #[.int .i64 wd, .int .i64 hi, .bool wb, .slice (some ⟨ba, oa, none⟩) n ca, .slice (some ⟨bb, ob, none⟩) n cb] 29) (.cells #[.int .i64 wi] 2) (.cells #[.float .f32 mo] 36) #[.int .i64 0, .int .i64 0, .bool false, .slice none 0 0, .slice none 0 0] 29
  replace X := X.alloc (.cells #[.int .i64 0, .int .i64 0, .bool false, .slice none 0 0, .slice none 0 0] 29)
  replace V := V.alloc (.cells #[.int .i64 0, .int .i64 0, .bool false, .slice none 0 0, .slice none 0 0] 29)
  replace U := U.alloc (.cells #[.int .i64 0, .int .i64 0, .bool false, .slice none 0 0, .slice none 0 0] 29)
  have HB : Hid (Below w.heap.size w ((((w.alloc (.cells #[.int .i64 wd, .int .i64 hi, .bool wb, .slice (some ⟨ba, oa, none⟩) n ca, .slice (some ⟨bb, ob, none⟩) n cb] 29)).alloc (.cells #[.int .i64 wi] 2)).alloc (.cells #[.float .f32 mo] 36)).alloc (.cells #[.int .i64 0, .int .i64 0, .bool false, .slice none 0 0, .slice none 0 0] 29))) := Lib.hid (((((Below.refl w.heap.size w).alloc (by simp <;> omega) _).alloc (by simp <;> omega) _).alloc (by simp <;> omega) _).alloc (by simp <;> omega) _)
  go_enter Try.func21, Try.ntmps21
  go_wp2_with fail
  generalize ((((w.alloc (.cells #[.int .i64 wd, .int .i64 hi, .bool wb, .slice (some ⟨ba, oa, none⟩) n ca, .slice (some ⟨bb, ob, none⟩) n cb] 29)).alloc (.cells #[.int .i64 wi] 2)).alloc (.cells #[.float .f32 mo] 36)).alloc (.cells #[.int .i64 0, .int .i64 0, .bool false, .slice none 0 0, .slice none 0 0] 29)) = u1 at *
  refine (HCV.out _ HB.out).mono ?_
  rintro r u2 ⟨rfl, q⟩
  replace X := X.later q
  replace V := V.later q
  replace U := U.later q
  replace R := R.later q
  replace HB := Lib.hid (HB.out.trans (q.mono HB.out.size))
  clear q
  obtain ⟨Vc, Vf⟩ := V.open
  go_wp2_with fail
  refine (implWidth _ _).mono ?_
  rintro r w9 ⟨rfl, rfl⟩
  rw [HW.out]
  clear Vc Vf
  obtain ⟨Uc, Uf⟩ := U.open
  go_wp2_with fail
  refine (impl_isLoss _ _).mono ?_
  rintro r w9 ⟨rfl, rfl⟩
  rw [HL.out]
  clear Uc Uf
  obtain ⟨Xc, Xf⟩ := X.open
  go_wp2_with fail
  refine (implShapeOf _ _ _ _ _ _ _ _ _ _).mono ?_
  rintro r u3 ⟨rfl, q⟩
  clear Xc Xf
  replace X := X.later q
  replace V := V.later q
  replace U := U.later q
  replace R := R.later q
  replace HB := Lib.hid (HB.out.trans (q.mono HB.out.size))
  clear q
  have H := Blk.new u3 #[.int .i64 wd, .int .i64 hi, .bool wb] 78
  have q := below_new u3 (.cells #[.int .i64 wd, .int .i64 hi, .bool wb] 78)
  replace X := X.later q
  replace V := V.later q
  replace U := U.later q
  replace R := R.later q
  replace HB := Lib.hid (HB.out.trans (q.mono HB.out.size))
  clear q
  go_wp2_with fail
  generalize (u3.alloc (.cells #[.int .i64 wd, .int .i64 hi, .bool wb] 78)) = u4 at *
  obtain ⟨gh0, hgh0⟩ : ∃ gh0, gh0 = u3.heap.size := ⟨_, rfl⟩
  rw [← hgh0] at H
  (try simp only [← hgh0])
  clear hgh0
  have HBU := HB.out; have zr := R.lt; have zu := HBU.size
  have aslc : ∀ w, (isAgg 22).run Try.prog w = .ok false w := fun w => by kernel_rfl
  have ai64 : ∀ w, (isAgg 2).run Try.prog w = .ok false w := fun w => by kernel_rfl
  obtain ⟨Xc, Xf⟩ := X.open; obtain ⟨Vc, Vf⟩ := V.open
  refine wp_region_noPanic ?_
  refine wp_region_plan (Grows u4) 12 [(0, true), (1, true), (3, true), (4, true), (5, true), (6, true), (7, true), (9, true), (2, false), (11, true), (8, false), (10, false)] (by kernel_rfl) (by kernel_rfl) (fun _ _ _ _ _ h => h) (Grows.drew _) ?_
  (refine plan_plain rfl rfl ?_ ?_ ?_; rotate_left; focus (intro w9; go_simp <;> with_reducible rfl)); (simp only [Act.put, List.setIfInBounds_toArray, List.set_cons_zero, List.set_cons_succ])
  (refine plan_load rfl rfl (⟨w.heap.size, 3, none⟩) (by kernel_rfl) (.slice (some ⟨ba, oa, none⟩) n ca) (load_cell aslc (Xc 3)) ?_; simp only [Act.put, List.setIfInBounds_toArray, List.set_cons_zero, List.set_cons_succ])
  (refine plan_load rfl rfl (⟨gh0, 0, none⟩) (by kernel_rfl) (.agg #[.int .i64 wd, .int .i64 hi, .bool wb]) (fun w' hw' => run_loadVar_row w' _ _ _ _ _ _ (H.later hw') Try.underlying78 rfl (by kernel_rfl)) ?_; simp only [Act.put, List.setIfInBounds_toArray, List.set_cons_zero, List.set_cons_succ])
  (refine plan_plain rfl rfl ?_ ?_ ?_; rotate_left; focus (intro w9; go_simp <;> with_reducible rfl)); (simp only [Act.put, List.setIfInBounds_toArray, List.set_cons_zero, List.set_cons_succ])
  (refine plan_load rfl rfl (⟨w.heap.size, 4, none⟩) (by kernel_rfl) (.slice (some ⟨bb, ob, none⟩) n cb) (load_cell aslc (Xc 4)) ?_; simp only [Act.put, List.setIfInBounds_toArray, List.set_cons_zero, List.set_cons_succ])
  (refine plan_load rfl rfl (⟨gh0, 0, none⟩) (by kernel_rfl) (.agg #[.int .i64 wd, .int .i64 hi, .bool wb]) (fun w' hw' => run_loadVar_row w' _ _ _ _ _ _ (H.later hw') Try.underlying78 rfl (by kernel_rfl)) ?_; simp only [Act.put, List.setIfInBounds_toArray, List.set_cons_zero, List.set_cons_succ])
  (refine plan_load rfl rfl (⟨w.heap.size + 1, 0, none⟩) (by kernel_rfl) (.int .i64 wi) (load_cell ai64 (Vc 0)) ?_; simp only [Act.put, List.setIfInBounds_toArray, List.set_cons_zero, List.set_cons_succ])
  (refine plan_plain rfl rfl ?_ ?_ ?_; rotate_left; focus (intro w9; go_simp <;> with_reducible rfl)); (simp only [Act.put, List.setIfInBounds_toArray, List.set_cons_zero, List.set_cons_succ])
  have v0_ := Grows.drew u4
  generalize u4.drew = v0 at *
  have e1 := ha.later (HBU.trans (Below.mono v0_ zu))
  refine plan_call rfl rfl 72 #[] #[] rfl _ Try.func72 (by kernel_rfl) (by kernel_rfl) [.slice (some ⟨ba, oa, none⟩) n ca] (by kernel_rfl) #[.slice (some ⟨ba, oa, none⟩) n ca] (by simp) _ (cloneN ba oa ca n xs v0 e1 HX.out n0 n256) ?_
  rintro e v1 ⟨g0, k0, rfl, oo0, bb1⟩
  refine ⟨_, rfl, v0_.next bb1, ?_⟩
  simp only [Act.put, List.setIfInBounds_toArray, List.set_cons_zero, List.set_cons_succ]
  have v1_ := v0_.next bb1
  (refine plan_plain rfl rfl ?_ ?_ ?_; rotate_left; focus (intro w9; go_simp <;> with_reducible rfl)); (simp only [Act.put, List.setIfInBounds_toArray, List.set_cons_zero, List.set_cons_succ])
  refine plan_call rfl rfl 74 #[] #[] rfl _ Try.func74 (by kernel_rfl) (by kernel_rfl) [.agg #[.int .i64 wd, .int .i64 hi, .bool wb], .int .i64 wi] (by kernel_rfl) #[.agg #[.int .i64 wd, .int .i64 hi, .bool wb], .int .i64 wi] (by simp) _ (implNear wd hi wi wb v1) ?_
  rintro e v2 ⟨gh, gw, rfl, BH, BW, _, _, bb2⟩
  refine ⟨_, rfl, v1_.next bb2, ?_⟩
  simp only [Act.put, List.setIfInBounds_toArray, List.set_cons_zero, List.set_cons_succ]
  have v2_ := v1_.next bb2
  have e2 := hb.later (HBU.trans (Below.mono v2_ zu))
  have HLI : Hid (∀ i, i < n → inB 1065353216 (ys.getD i 0) = true) := Lib.hid (fun i hlt => by rw [getD_get (show i < ys.length by rw [HY.out]; exact hlt)]; exact List.all_eq_true.1 HLO.out _ (List.getElem_mem _))
  have HCH := implChanged wd hi wb bb ob cb n ys 115 68 #[] #[.pointer (some ⟨gh, 0, none⟩), .pointer (some ⟨gw, 0, none⟩)] #[] #[.pointer (some ⟨w.heap.size + 1, 0, none⟩), .pointer (some ⟨gh0, 0, none⟩), .pointer (some ⟨w.heap.size + 1 + 1, 0, none⟩)] (nearP wd hi wi) (gradeG wd hi wi mo ys) v2 e2 qb HY.out s1 s2 n0 n256 (by exact ⟨_, rfl, by kernel_rfl, by kernel_rfl⟩) (by exact ⟨_, rfl, by kernel_rfl, by kernel_rfl⟩) (fun i hlt w' hw' => by obtain ⟨x0, x1, y0, y1⟩ := split_in s1 HN.out hlt; exact implNear1 gh gw wd hi wi _ _ wb w' (BH.later hw') (BW.later hw') s1 s2 s3 s4 x0 x1 y0 y1) (fun i hlt hp w' hw' => by obtain ⟨x0, x1, y0, y1⟩ := split_in s1 HN.out hlt; exact implGrade1 (w.heap.size + 1) gh0 (w.heap.size + 1 + 1) (ys.getD i 0) mo wd hi wi _ _ wb w' ((H.later v2_).later hw') ((V.later v2_).later hw') ((U.later v2_).later hw') s1 s2 s3 s4 x0 x1 y0 y1 wi1 wi2 (of_decide_eq_true hp) (HLI.out i hlt) HL.out)
  refine plan_call rfl rfl 73 #[] #[] rfl _ Try.func73 (by kernel_rfl) (by kernel_rfl) [.agg #[.int .i64 wd, .int .i64 hi, .bool wb], .slice (some ⟨bb, ob, none⟩) n cb, .func (.func 115) #[] #[.pointer (some ⟨gh, 0, none⟩), .pointer (some ⟨gw, 0, none⟩)], .func (.func 68) #[] #[.pointer (some ⟨w.heap.size + 1, 0, none⟩), .pointer (some ⟨gh0, 0, none⟩), .pointer (some ⟨w.heap.size + 1 + 1, 0, none⟩)]] (by kernel_rfl) #[.agg #[.int .i64 wd, .int .i64 hi, .bool wb], .slice (some ⟨bb, ob, none⟩) n cb, .func (.func 115) #[] #[.pointer (some ⟨gh, 0, none⟩), .pointer (some ⟨gw, 0, none⟩)], .func (.func 68) #[] #[.pointer (some ⟨w.heap.size + 1, 0, none⟩), .pointer (some ⟨gh0, 0, none⟩), .pointer (some ⟨w.heap.size + 1 + 1, 0, none⟩)]] (by simp) _ (HCH) ?_
  rintro e v3 ⟨g1, k1, L, rfl, oo1, hL, hI, bb3⟩
  refine ⟨_, rfl, v2_.next bb3, ?_⟩
  simp only [Act.put, List.setIfInBounds_toArray, List.set_cons_zero, List.set_cons_succ]
  have v3_ := v2_.next bb3; clear HCH
  change wpList _ _ _ _ _ _
  simp only [List.drop_succ_cons, List.drop_zero]
  have sz0 : u4.heap.size ≤ v0.heap.size := Below.size v0_; have sz2 : u4.heap.size ≤ v2.heap.size := Below.size v2_; have sz12 := bb2.size; have sz01 := bb1.size; have sz23 := bb3.size
  have y0 := oo0.bound g0 rfl; have y1 := oo1.bound g1 rfl
  have z0 := (oo0.span _ rfl).2; dsimp only at z0
  have ne01 : g0 ≠ g1 := by omega
  have O0 := Lib.hid (((oo0.later bb2).later bb3).lower (show w.heap.size ≤ v0.heap.size by omega)); have O1 := Lib.hid (oo1.lower (show w.heap.size ≤ v2.heap.size by omega)); clear oo0 oo1
  have HB4 := Lib.hid (HBU.trans (Below.mono v3_ zu))
  have X4 := X.later v3_; have R4 := R.later v3_
  have HI := Lib.hid hI; have HLL := Lib.hid hL; clear hI hL e1 e2 BH BW bb1 bb2 bb3 v0_ v1_ v2_ v3_ Xc Xf Vc Vf X R V U H HB
  obtain ⟨Xc, Xf⟩ := X4.open; obtain ⟨Rc, Rf⟩ := R4.open
  go_wp2_with fail
  refine NoPanic.normal ?_
  go_wp2
  refine bodyPost_ret (v := .tuple #[.agg #[.int .i64 wd, .int .i64 hi, .bool wb, .slice (some ⟨g0, 0, none⟩) n k0, .slice (some ⟨g1, 0, none⟩) n k1], .bool true]) (by simp [results, Try.results21, go_sem, Rc]) rfl (gave_yes HBT.out HX.out HLL.out ⟨(((((((O0.out.set (p := ⟨w.heap.size, 3, none⟩) (ne_block (h := w.heap.size) (by omega)) _).set (p := ⟨w.heap.size, 4, none⟩) (ne_block (h := w.heap.size) (by omega)) _).set (p := ⟨w.heap.size + 1 + 1 + 1, 0, none⟩) (ne_block (h := w.heap.size + 1 + 1 + 1) (by omega)) _).set (p := ⟨w.heap.size + 1 + 1 + 1, 1, none⟩) (ne_block (h := w.heap.size + 1 + 1 + 1) (by omega)) _).set (p := ⟨w.heap.size + 1 + 1 + 1, 2, none⟩) (ne_block (h := w.heap.size + 1 + 1 + 1) (by omega)) _).set (p := ⟨w.heap.size + 1 + 1 + 1, 3, none⟩) (ne_block (h := w.heap.size + 1 + 1 + 1) (by omega)) _).set (p := ⟨w.heap.size + 1 + 1 + 1, 4, none⟩) (ne_block (h := w.heap.size + 1 + 1 + 1) (by omega)) _), (((((((O1.out.set (p := ⟨w.heap.size, 3, none⟩) (ne_block (h := w.heap.size) (by omega)) _).set (p := ⟨w.heap.size, 4, none⟩) (ne_block (h := w.heap.size) (by omega)) _).set (p := ⟨w.heap.size + 1 + 1 + 1, 0, none⟩) (ne_block (h := w.heap.size + 1 + 1 + 1) (by omega)) _).set (p := ⟨w.heap.size + 1 + 1 + 1, 1, none⟩) (ne_block (h := w.heap.size + 1 + 1 + 1) (by omega)) _).set (p := ⟨w.heap.size + 1 + 1 + 1, 2, none⟩) (ne_block (h := w.heap.size + 1 + 1 + 1) (by omega)) _).set (p := ⟨w.heap.size + 1 + 1 + 1, 3, none⟩) (ne_block (h := w.heap.size + 1 + 1 + 1) (by omega)) _).set (p := ⟨w.heap.size + 1 + 1 + 1, 4, none⟩) (ne_block (h := w.heap.size + 1 + 1 + 1) (by omega)) _), apart_ne ne01, Is.refl qa (by rw [HX.out]; exact n256), HI.out, (((((((HB4.out.setCell (p := ⟨w.heap.size, 3, none⟩) (by first | omega | (simp <;> omega)) _).setCell (p := ⟨w.heap.size, 4, none⟩) (by first | omega | (simp <;> omega)) _).setCell (p := ⟨w.heap.size + 1 + 1 + 1, 0, none⟩) (by first | omega | (simp <;> omega)) _).setCell (p := ⟨w.heap.size + 1 + 1 + 1, 1, none⟩) (by first | omega | (simp <;> omega)) _).setCell (p := ⟨w.heap.size + 1 + 1 + 1, 2, none⟩) (by first | omega | (simp <;> omega)) _).setCell (p := ⟨w.heap.size + 1 + 1 + 1, 3, none⟩) (by first | omega | (simp <;> omega)) _).setCell (p := ⟨w.heap.size + 1 + 1 + 1, 4, none⟩) (by first | omega | (simp <;> omega)) _)⟩)

theorem specShare (x : Nat) (w : World) : Calls Try.prog 63 #[.float .f32 x, .float .f32 1065353216] w fun e w' => e = .returned (.bool (inB 1065353216 x)) ∧ w = w' := by
  have hi : inB 1065353216 x = (geB x 0 && leB x 1065353216) := by
    rw [← inB_eq 1065353216 x (by decide +kernel), leB_swap 0 x]
  rw [hi]; clear hi
  rcases h1 : geB x 0 with _ | _
  · unfold geB at h1
    go_enter Try.func63, Try.ntmps63
    go_wp2
    go_ret
    exact ⟨rfl, rfl⟩
  · unfold geB at h1
    have hl : leB x 1065353216 = (FloatKind.f32.format.order x 1065353216 == some .lt || FloatKind.f32.format.order x 1065353216 == some .eq) := rfl
    rw [hl]; clear hl
    go_enter Try.func63, Try.ntmps63
    go_wp2
    go_ret
    exact ⟨rfl, rfl⟩

set_option maxHeartbeats 8000000 in
set_option maxRecDepth 100000 in
theorem specGradeLossesL (wd hi : Int) (wb : Bool) (a b : Option Addr) (ca cb : Nat) (xs ys : List Nat) (wi : Int) (mo : Nat) (w : World) (ha : RowV w a (fvals xs)) (hb : RowV w b (fvals ys)) (qa : ∀ z ∈ xs, z < 2 ^ 32) (qb : ∀ z ∈ ys, z < 2 ^ 32) (hx : xs.length ≤ maxLen) (hy : ys.length ≤ maxLen) (w1 : (Lit.int .i64 wi).wf = true) (wz : mo < 2 ^ 32) :
    Calls Try.prog 20 #[.agg #[.int .i64 wd, .int .i64 hi, .bool wb, .slice a xs.length ca, .slice b ys.length cb], .int .i64 wi, .float .f32 mo] w (HasSh w (gradeB wd hi xs ys wi mo) wd hi wb (cl xs) (chgC (nearP wd hi wi) (gradeG wd hi wi mo ys) ys)) := by
  rcases hv : validB wd hi xs ys with _ | _
  · skip
    refine Calls.mono ?_ (fun e w9 h9 => has_no (by unfold gradeB; rw [hv]; rfl) h9)
    have H_v := Lib.hid hv; clear hv
    have X := Blk.new w #[.int .i64 wd, .int .i64 hi, .bool wb, .slice a xs.length ca, .slice b ys.length cb] 29
    have R := Blk.new1 w (.cells #[.int .i64 wd, .int .i64 hi, .bool wb, .slice a xs.length ca, .slice b ys.length cb] 29) #[.int .i64 0, .int .i64 0, .bool false, .slice none 0 0, .slice none 0 0] 29
    replace X := X.alloc (.cells #[.int .i64 0, .int .i64 0, .bool false, .slice none 0 0, .slice none 0 0] 29)
    have HB : Hid (Below w.heap.size w ((w.alloc (.cells #[.int .i64 wd, .int .i64 hi, .bool wb, .slice a xs.length ca, .slice b ys.length cb] 29)).alloc (.cells #[.int .i64 0, .int .i64 0, .bool false, .slice none 0 0, .slice none 0 0] 29))) := Lib.hid (((Below.refl w.heap.size w).alloc (by simp <;> omega) _).alloc (by simp <;> omega) _)
    go_enter Try.func20, Try.ntmps20
    go_wp2_with fail
    generalize ((w.alloc (.cells #[.int .i64 wd, .int .i64 hi, .bool wb, .slice a xs.length ca, .slice b ys.length cb] 29)).alloc (.cells #[.int .i64 0, .int .i64 0, .bool false, .slice none 0 0, .slice none 0 0] 29)) = u1 at *
    refine (specIs _ _ _ _ _ _ _ _ _ _ _ X (ha.later HB.out) (hb.later HB.out) hx hy).mono ?_
    rintro r u2 ⟨rfl, nq, hw⟩
    have q : Below u1.heap.size u1 u2 := by rw [hw]; exact below_drewN (Below.refl _ _) _
    clear hw
    replace X := X.later q
    replace R := R.later q
    replace HB := Lib.hid (HB.out.trans (q.mono HB.out.size))
    clear q
    rw [H_v.out]
    obtain ⟨Rc, Rf⟩ := R.open
    go_wp2
    refine bodyPost_ret (v := .tuple #[.agg #[.int .i64 0, .int .i64 0, .bool false, .slice none 0 0, .slice none 0 0], .bool false]) (by simp [results, Try.results20, go_sem, Rc]) rfl ⟨none, none, 0, 0, [], [], rfl, HasSheet.none (((((HB.out.setCell (p := ⟨w.heap.size + 1, 0, none⟩) (by first | omega | (simp <;> omega)) _).setCell (p := ⟨w.heap.size + 1, 1, none⟩) (by first | omega | (simp <;> omega)) _).setCell (p := ⟨w.heap.size + 1, 2, none⟩) (by first | omega | (simp <;> omega)) _).setCell (p := ⟨w.heap.size + 1, 3, none⟩) (by first | omega | (simp <;> omega)) _).setCell (p := ⟨w.heap.size + 1, 4, none⟩) (by first | omega | (simp <;> omega)) _)⟩
  have HB0 : Hid (gradeB wd hi xs ys wi mo = (widthB wi && inB 1065353216 mo)) := Lib.hid (by unfold gradeB; rw [hv]; rfl)
  have HLO : Hid (ys.all (inB 1065353216) = true) := Lib.hid (by unfold validB at hv; simp only [Bool.and_eq_true] at hv; exact hv.2.2.2.2)
  obtain ⟨s1, s2, s3, s4, hm2, lx, ly⟩ := valid_parts hv
  obtain ⟨t1, t2⟩ := (sides_mul (valid_sides hv)).2.2.2.2
  obtain ⟨n, hn⟩ := Int.eq_ofNat_of_zero_le (show 0 ≤ wd * hi by omega)
  have hxn : xs.length = n := by omega
  have hyn : ys.length = n := by omega
  have n256 : n ≤ 256 := by omega
  have n0 : 0 < n := by omega
  obtain ⟨ba, oa, rfl, hz0⟩ := ha 0 _ (fvals_get (show 0 < xs.length by omega)); clear hz0
  obtain ⟨bb, ob, rfl, hz1⟩ := hb 0 _ (fvals_get (show 0 < ys.length by omega)); clear hz1
  have CV : ∀ u, Below w.heap.size w u → Blk u w.heap.size #[.int .i64 wd, .int .i64 hi, .bool wb, .slice (some ⟨ba, oa, none⟩) n ca, .slice (some ⟨bb, ob, none⟩) n cb] 29 → Calls Try.prog 50 #[.pointer (some ⟨w.heap.size, 0, none⟩)] u fun e w' => e = .returned (.bool true) ∧ Below u.heap.size u w' := fun u hu X => by
    have := specIs w.heap.size wd hi wb _ _ ca cb xs ys u (by rw [hxn, hyn]; exact X) (ha.later hu) (hb.later hu) hx hy
    rw [hv] at this
    exact this.mono fun e w' ⟨h, nq, hw⟩ => ⟨h, by rw [hw]; exact below_drewN (Below.refl _ _) _⟩
  have HCV := Lib.hid CV; clear CV
  rw [hxn, hyn]
  have HN := Lib.hid hn; have HX := Lib.hid hxn; have HY := Lib.hid hyn; clear hn hxn hyn hv lx ly t1 t2
  rcases h0 : widthB wi with _ | _
  · skip
    refine Calls.mono ?_ (fun e w9 h9 => has_no (by rw [HB0.out, h0]; rfl) h9)
    have HW := Lib.hid h0; clear h0
    have X := Blk.new w #[.int .i64 wd, .int .i64 hi, .bool wb, .slice (some ⟨ba, oa, none⟩) n ca, .slice (some ⟨bb, ob, none⟩) n cb] 29
    have R := Blk.new1 w (.cells #[.int .i64 wd, .int .i64 hi, .bool wb, .slice (some ⟨ba, oa, none⟩) n ca, .slice (some ⟨bb, ob, none⟩) n cb] 29) #[.int .i64 0, .int .i64 0, .bool false, .slice none 0 0, .slice none 0 0] 29
    replace X := X.alloc (.cells #[.int .i64 0, .int .i64 0, .bool false, .slice none 0 0, .slice none 0 0] 29)
    have HB : Hid (Below w.heap.size w ((w.alloc (.cells #[.int .i64 wd, .int .i64 hi, .bool wb, .slice (some ⟨ba, oa, none⟩) n ca, .slice (some ⟨bb, ob, none⟩) n cb] 29)).alloc (.cells #[.int .i64 0, .int .i64 0, .bool false, .slice none 0 0, .slice none 0 0] 29))) := Lib.hid (((Below.refl w.heap.size w).alloc (by simp <;> omega) _).alloc (by simp <;> omega) _)
    go_enter Try.func20, Try.ntmps20
    go_wp2_with fail
    generalize ((w.alloc (.cells #[.int .i64 wd, .int .i64 hi, .bool wb, .slice (some ⟨ba, oa, none⟩) n ca, .slice (some ⟨bb, ob, none⟩) n cb] 29)).alloc (.cells #[.int .i64 0, .int .i64 0, .bool false, .slice none 0 0, .slice none 0 0] 29)) = u1 at *
    refine (HCV.out _ HB.out X).mono ?_
    rintro r u2 ⟨rfl, q⟩
    replace X := X.later q
    replace R := R.later q
    replace HB := Lib.hid (HB.out.trans (q.mono HB.out.size))
    clear q
    go_wp2_with fail
    refine (l00In_any _ _ _ _).mono ?_
    rintro r w9 ⟨rfl, rfl⟩
    rw [show decide (1 ≤ wi ∧ wi ≤ 16) = widthB wi from rfl, HW.out]
    obtain ⟨Rc, Rf⟩ := R.open
    go_wp2
    refine bodyPost_ret (v := .tuple #[.agg #[.int .i64 0, .int .i64 0, .bool false, .slice none 0 0, .slice none 0 0], .bool false]) (by simp [results, Try.results20, go_sem, Rc]) rfl ⟨none, none, 0, 0, [], [], rfl, HasSheet.none (((((HB.out.setCell (p := ⟨w.heap.size + 1, 0, none⟩) (by first | omega | (simp <;> omega)) _).setCell (p := ⟨w.heap.size + 1, 1, none⟩) (by first | omega | (simp <;> omega)) _).setCell (p := ⟨w.heap.size + 1, 2, none⟩) (by first | omega | (simp <;> omega)) _).setCell (p := ⟨w.heap.size + 1, 3, none⟩) (by first | omega | (simp <;> omega)) _).setCell (p := ⟨w.heap.size + 1, 4, none⟩) (by first | omega | (simp <;> omega)) _)⟩
  rcases h1 : inB 1065353216 mo with _ | _
  · skip
    refine Calls.mono ?_ (fun e w9 h9 => has_no (by rw [HB0.out, h0, h1]; rfl) h9)
    have HW := Lib.hid h0; clear h0; have HL := Lib.hid h1; clear h1
    have X := Blk.new w #[.int .i64 wd, .int .i64 hi, .bool wb, .slice (some ⟨ba, oa, none⟩) n ca, .slice (some ⟨bb, ob, none⟩) n cb] 29
    have R := Blk.new1 w (.cells #[.int .i64 wd, .int .i64 hi, .bool wb, .slice (some ⟨ba, oa, none⟩) n ca, .slice (some ⟨bb, ob, none⟩) n cb] 29) #[.int .i64 0, .int .i64 0, .bool false, .slice none 0 0, .slice none 0 0] 29
    replace X := X.alloc (.cells #[.int .i64 0, .int .i64 0, .bool false, .slice none 0 0, .slice none 0 0] 29)
    have HB : Hid (Below w.heap.size w ((w.alloc (.cells #[.int .i64 wd, .int .i64 hi, .bool wb, .slice (some ⟨ba, oa, none⟩) n ca, .slice (some ⟨bb, ob, none⟩) n cb] 29)).alloc (.cells #[.int .i64 0, .int .i64 0, .bool false, .slice none 0 0, .slice none 0 0] 29))) := Lib.hid (((Below.refl w.heap.size w).alloc (by simp <;> omega) _).alloc (by simp <;> omega) _)
    go_enter Try.func20, Try.ntmps20
    go_wp2_with fail
    generalize ((w.alloc (.cells #[.int .i64 wd, .int .i64 hi, .bool wb, .slice (some ⟨ba, oa, none⟩) n ca, .slice (some ⟨bb, ob, none⟩) n cb] 29)).alloc (.cells #[.int .i64 0, .int .i64 0, .bool false, .slice none 0 0, .slice none 0 0] 29)) = u1 at *
    refine (HCV.out _ HB.out X).mono ?_
    rintro r u2 ⟨rfl, q⟩
    replace X := X.later q
    replace R := R.later q
    replace HB := Lib.hid (HB.out.trans (q.mono HB.out.size))
    clear q
    go_wp2_with fail
    refine (l00In_any _ _ _ _).mono ?_
    rintro r w9 ⟨rfl, rfl⟩
    rw [show decide (1 ≤ wi ∧ wi ≤ 16) = widthB wi from rfl, HW.out]
    go_wp2_with fail
    refine (specShare _ _).mono ?_
    rintro r w9 ⟨rfl, rfl⟩
    rw [HL.out]
    obtain ⟨Rc, Rf⟩ := R.open
    go_wp2
    refine bodyPost_ret (v := .tuple #[.agg #[.int .i64 0, .int .i64 0, .bool false, .slice none 0 0, .slice none 0 0], .bool false]) (by simp [results, Try.results20, go_sem, Rc]) rfl ⟨none, none, 0, 0, [], [], rfl, HasSheet.none (((((HB.out.setCell (p := ⟨w.heap.size + 1, 0, none⟩) (by first | omega | (simp <;> omega)) _).setCell (p := ⟨w.heap.size + 1, 1, none⟩) (by first | omega | (simp <;> omega)) _).setCell (p := ⟨w.heap.size + 1, 2, none⟩) (by first | omega | (simp <;> omega)) _).setCell (p := ⟨w.heap.size + 1, 3, none⟩) (by first | omega | (simp <;> omega)) _).setCell (p := ⟨w.heap.size + 1, 4, none⟩) (by first | omega | (simp <;> omega)) _)⟩
  have HBT : Hid (gradeB wd hi xs ys wi mo = true) := Lib.hid (by rw [HB0.out, h0, h1]; rfl)
  obtain ⟨wi1, wi2⟩ : 1 ≤ wi ∧ wi ≤ 16 := of_decide_eq_true h0
  have HW := Lib.hid h0; clear h0; have HL := Lib.hid h1; clear h1
  have HT : Hid (∀ L, ChgTo (nearP wd hi wi) (gradeG wd hi wi mo ys) ys n L → Is L (chgC (nearP wd hi wi) (gradeG wd hi wi mo ys) ys)) := Lib.hid (fun L h => h.all (by rw [HY.out]; exact Nat.le_refl _) (by rw [HY.out]; exact n256))
  have HST := Lib.hid (ChgTo.start (p := nearP wd hi wi) (G := gradeG wd hi wi mo ys) qb)
  have X := Blk.new w #[.int .i64 wd, .int .i64 hi, .bool wb, .slice (some ⟨ba, oa, none⟩) n ca, .slice (some ⟨bb, ob, none⟩) n cb] 29
  have R := Blk.new1 w (.cells #[.int .i64 wd, .int .i64 hi, .bool wb, .slice (some ⟨ba, oa, none⟩) n ca, .slice (some ⟨bb, ob, none⟩) n cb] 29) #[.int .i64 0, .int .i64 0, .bool false, .slice none 0 0, .slice none 0 0] 29
  replace X := X.alloc (.cells #[.int .i64 0, .int .i64 0, .bool false, .slice none 0 0, .slice none 0 0] 29)
  have HB : Hid (Below w.heap.size w ((w.alloc (.cells #[.int .i64 wd, .int .i64 hi, .bool wb, .slice (some ⟨ba, oa, none⟩) n ca, .slice (some ⟨bb, ob, none⟩) n cb] 29)).alloc (.cells #[.int .i64 0, .int .i64 0, .bool false, .slice none 0 0, .slice none 0 0] 29))) := Lib.hid (((Below.refl w.heap.size w).alloc (by simp <;> omega) _).alloc (by simp <;> omega) _)
  go_enter Try.func20, Try.ntmps20
  go_wp2_with fail
  generalize ((w.alloc (.cells #[.int .i64 wd, .int .i64 hi, .bool wb, .slice (some ⟨ba, oa, none⟩) n ca, .slice (some ⟨bb, ob, none⟩) n cb] 29)).alloc (.cells #[.int .i64 0, .int .i64 0, .bool false, .slice none 0 0, .slice none 0 0] 29)) = u1 at *
  refine (HCV.out _ HB.out X).mono ?_
  rintro r u2 ⟨rfl, q⟩
  replace X := X.later q
  replace R := R.later q
  replace HB := Lib.hid (HB.out.trans (q.mono HB.out.size))
  clear q
  go_wp2_with fail
  refine (l00In_any _ _ _ _).mono ?_
  rintro r w9 ⟨rfl, rfl⟩
  rw [show decide (1 ≤ wi ∧ wi ≤ 16) = widthB wi from rfl, HW.out]
  go_wp2_with fail
  refine (specShare _ _).mono ?_
  rintro r w9 ⟨rfl, rfl⟩
  rw [HL.out]
  obtain ⟨Xc, Xf⟩ := X.open
  go_wp2_with fail
  have szr := R.lt; have szo := HB.out.size
  refine (specOwnS _ _ _ _ _ _ _ n wd hi wb xs ys _ X (ha.later HB.out) (hb.later HB.out) HX.out HY.out n0 n256).mono ?_
  rintro r u3 ⟨g0, g1, c0, c1, rfl, o0, o1, g01, q⟩
  have y0 := o0.bound g0 rfl; have y1 := o1.bound g1 rfl; have z0 := (o0.span _ rfl).2; have z1 := (o1.span _ rfl).2; dsimp only at z0 z1
  clear Xc Xf
  replace X := X.later q
  replace R := R.later q
  replace HB := Lib.hid (HB.out.trans (q.mono HB.out.size))
  clear q
  have W0 := Lib.hid (o0.lower (show w.heap.size ≤ _ by omega)); have W1 := Lib.hid (o1.lower (show w.heap.size ≤ _ by omega)); clear o0 o1
  have O := Blk.new u3 #[.int .i64 wd, .int .i64 hi, .bool wb, .slice (some ⟨g0, 0, none⟩) n c0, .slice (some ⟨g1, 0, none⟩) n c1] 29
  have q := below_new u3 (.cells #[.int .i64 wd, .int .i64 hi, .bool wb, .slice (some ⟨g0, 0, none⟩) n c0, .slice (some ⟨g1, 0, none⟩) n c1] 29)
  replace X := X.later q
  replace R := R.later q
  replace W0 := Lib.hid (W0.out.later q)
  replace W1 := Lib.hid (W1.out.later q)
  replace HB := Lib.hid (HB.out.trans (q.mono HB.out.size))
  clear q
  go_upto_region 4 with (fail)
  obtain ⟨gx, hgx⟩ : ∃ gx, gx = u3.heap.size := ⟨_, rfl⟩
  rw [← hgx] at O
  (try simp only [← hgx])
  have zx := O.lt
  generalize u3.alloc (.cells #[.int .i64 wd, .int .i64 hi, .bool wb, .slice (some ⟨g0, 0, none⟩) n c0, .slice (some ⟨g1, 0, none⟩) n c1] 29) = u4 at *
  have n1 : g0 ≠ gx := by omega
  have n2 : g1 ≠ gx := by omega
  have n3 : w.heap.size ≠ g0 := by omega
  have n4 : w.heap.size ≠ g1 := by omega
  have n5 : w.heap.size + 1 ≠ g0 := by omega
  have n6 : w.heap.size + 1 ≠ g1 := by omega
  have n7 : w.heap.size ≤ g0 := by omega
  have n8 : w.heap.size ≤ g1 := by omega
  have n9 : g0 ≠ g1 := by omega
  have n10 : w.heap.size + 1 ≠ gx := by omega
  clear y0 y1 z0 z1 szo szr hgx zx g01
  obtain ⟨Oc, Of⟩ := O.open
  go_wp2
  go_loopw [30] (fun iv wr => ∃ (k : Nat) (L : List Nat), k ≤ n ∧ iv = .int .i64 k ∧ ChgTo (nearP wd hi wi) (gradeG wd hi wi mo ys) ys k L ∧ OwnV wr w.heap.size (some ⟨g0, 0, none⟩) (fvals xs) ∧ OwnV wr w.heap.size (some ⟨g1, 0, none⟩) (fvals L) ∧ Blk wr w.heap.size #[.int .i64 wd, .int .i64 hi, .bool wb, .slice (some ⟨ba, oa, none⟩) n ca, .slice (some ⟨bb, ob, none⟩) n cb] 29 ∧ Blk wr (w.heap.size + 1) #[.int .i64 0, .int .i64 0, .bool false, .slice none 0 0, .slice none 0 0] 29 ∧ Blk wr gx #[.int .i64 wd, .int .i64 hi, .bool wb, .slice (some ⟨g0, 0, none⟩) n c0, .slice (some ⟨g1, 0, none⟩) n c1] 29 ∧ Below w.heap.size w wr) (fun iv _ => n - (intOf iv).toNat)
  case atStart => exact ⟨0, ys, Nat.zero_le _, rfl, HST.out, W0.out, W1.out, X, R, O, HB.out⟩
  case round =>
    obtain ⟨k, L, hk, rfl, hM, h5, h6, X, R, O, hb5⟩ := hrel
    replace W0 := Lib.hid h5; replace W1 := Lib.hid h6; replace HB := Lib.hid hb5; have HM2 := Lib.hid hM; clear h5 h6 hb5 hM HST
    clear Oc Of
    by_cases hlt : k < n
    · skip
      have kx : k < ys.length := by rw [HY.out]; exact hlt
      have kL : k < L.length := by rw [HM2.out.len]; exact kx
      have hki : (k : Int) < (n : Int) := by omega
      have hL := HM2.out.at kx kL
      have HDP : Hid (∀ b, decide (depI wd hi ((k : Int) % wd) ((k : Int) / wd) < wi) = b → nearP wd hi wi k = b) := Lib.hid (fun b h => h)
      have HGK : Hid (gradeG wd hi wi mo ys k = gradeC L[k] mo wi (depI wd hi ((k : Int) % wd) ((k : Int) / wd))) := Lib.hid (by unfold gradeG; rw [hL, getD_get kx])
      have hd0 := dep_in (split_in s1 HN.out hlt)
      have HDS : Hid (∀ u, Blk u w.heap.size #[.int .i64 wd, .int .i64 hi, .bool wb, .slice (some ⟨ba, oa, none⟩) n ca, .slice (some ⟨bb, ob, none⟩) n cb] 29 → Calls Try.prog 65 #[.pointer (some ⟨w.heap.size, 0, none⟩), .int .i64 (k : Int)] u fun e w' => e = .returned (.int .i64 (depI wd hi ((k : Int) % wd) ((k : Int) / wd))) ∧ Below u.heap.size u w') := Lib.hid (fun u hX => specDepth w.heap.size wd hi (k : Int) wb _ _ u hX s1 s2 s3 s4 (by omega) (by rw [HN.out]; omega) (by rw [HN.out]; omega))
      have hd1 : depI wd hi ((k : Int) % wd) ((k : Int) / wd) ≤ 16 := by have h9 := split_in s1 HN.out hlt; omega
      generalize depI wd hi ((k : Int) % wd) ((k : Int) / wd) = d at *
      have hd2 := hd0.1; clear hd0 hL
      obtain ⟨cs, tt9, _, hblk, hvv⟩ := own_some W1.out; obtain ⟨gcc, gcf⟩ := hblk.open; have f0 : wr.cell? ⟨g1, k, none⟩ = some (.float .f32 L[k]) := (gcc _).trans (hvv k _ (fvals_get kL)); clear gcc gcf hvv hblk
      generalize hLk : L[k] = ev at *; clear hLk
      rcases hnear : decide (d < wi) with _ | _
      · skip
        have HN2 := Lib.hid (HM2.out.no (HDP.out _ hnear))
        have dge : wi ≤ d := by have := of_decide_eq_false hnear; omega
        clear hnear
        obtain ⟨Xc, Xf⟩ := X.open
        go_wp2_with fail
        refine (HDS.out _ X).mono ?_
        rintro r v1 ⟨rfl, q⟩
        clear Xc Xf
        have f1 := cell_on f0 q; replace X := X.later q; replace R := R.later q; replace O := O.later q; replace W0 := Lib.hid (W0.out.later q); replace W1 := Lib.hid (W1.out.later q); replace HB := Lib.hid (HB.out.trans (q.mono HB.out.size)); clear q f0
        go_wp2
        go_roundw
        case rel => exact ⟨k + 1, L, by omega, by go_num, HN2.out, W0.out, W1.out, X, R, O, HB.out⟩
        case measure => simp [intOf]; omega
      · skip
        have HN2 := Lib.hid (fun v h1 h2 => HM2.out.yes (v := v) kx (HDP.out _ hnear) h1 h2)
        have dlt : d < wi := of_decide_eq_true hnear
        clear hnear
        obtain ⟨Xc, Xf⟩ := X.open
        go_wp2_with fail
        refine (HDS.out _ X).mono ?_
        rintro r v1 ⟨rfl, q⟩
        clear Xc Xf
        have f1 := cell_on f0 q; replace X := X.later q; replace R := R.later q; replace O := O.later q; replace W0 := Lib.hid (W0.out.later q); replace W1 := Lib.hid (W1.out.later q); replace HB := Lib.hid (HB.out.trans (q.mono HB.out.size)); clear q f0
        obtain ⟨Oc, Of⟩ := O.open
        have tok1 : True := trivial; have tok2 : True := trivial; have tok3 : True := trivial; have tok4 : True := trivial
        go_upto_region 11 with (first | (have _t := tok1; refine wpList_arith rfl _ _ _ _ _ rfl rfl .f32 _ _ rfl rfl ?_; intro z1 nn1 hc hb_1; have H_1 := Lib.hid hc; clear hc _t tok1; replace hb_1 : z1 < 2 ^ 32 := hb_1) | (have _t := tok2; refine wpList_arith rfl _ _ _ _ _ rfl rfl .f32 _ _ rfl rfl ?_; intro z2 nn2 hc hb_2; have H_2 := Lib.hid hc; clear hc _t tok2; replace hb_2 : z2 < 2 ^ 32 := hb_2) | (have _t := tok3; refine wpList_arith rfl _ _ _ _ _ rfl rfl .f32 _ _ rfl rfl ?_; intro z3 nn3 hc hb_3; have H_3 := Lib.hid hc; clear hc _t tok3; replace hb_3 : z3 < 2 ^ 32 := hb_3) | (have _t := tok4; refine wpList_arith rfl _ _ _ _ _ rfl rfl .f32 _ _ rfl rfl ?_; intro z4 nn4 hc hb_4; have H_4 := Lib.hid hc; clear hc _t tok4; replace hb_4 : z4 < 2 ^ 32 := hb_4))
        have HZ : Hid (canon .f32 z4 = gradeN ev mo wi d) := Lib.hid (by unfold gradeN; rw [H_4.out, H_3.out, H_2.out, H_1.out]; rfl)
        have HV := Lib.hid (grade_bits (S := gradeN ev mo wi d) HZ.out)
        clear f1 Oc Of
        have q9 : Below v1.heap.size v1 (v1.drewN (nn1 + nn2 + nn3 + nn4)) := below_drewN (Below.refl _ _) _
        generalize v1.drewN (nn1 + nn2 + nn3 + nn4) = v7 at *
        replace X := X.later q9; replace R := R.later q9; replace O := O.later q9; replace W0 := Lib.hid (W0.out.later q9); replace W1 := Lib.hid (W1.out.later q9); replace HB := Lib.hid (HB.out.trans (q9.mono HB.out.size)); clear q9
        rcases hgt : (FloatKind.f32.format.order z4 1065353216 == some .gt) with _ | _
        · skip
          have HV2 : Hid (canon .f32 z4 = gradeG wd hi wi mo ys k) := Lib.hid (by rw [HGK.out]; have h9 := HV.out; rw [if_neg (by simpa using hgt)] at h9; exact h9)
          have HN3 := Lib.hid (HN2.out z4 hb_4 HV2.out)
          clear HV HV2 HZ
          obtain ⟨cs, tt9, _, hblk, hvv⟩ := own_some W1.out; obtain ⟨gcc, gcf⟩ := hblk.open; have f0 : v7.cell? ⟨g1, k, none⟩ = some _ := (gcc _).trans (hvv k _ (fvals_get kL)); have GF := gcf k; clear gcc gcf hvv hblk
          have hp := own_put W1.out k (.float .f32 z4) (by rw [fvals_length]; exact kL)
          rw [fvals_set] at hp
          have HP2 := Lib.hid hp; clear hp
          obtain ⟨Oc, Of⟩ := O.open
          go_wp2
          go_roundw
          case rel => exact ⟨k + 1, _, by omega, by go_num, HN3.out, W0.out.set (fun x hx => by cases hx; exact n9) _, HP2.out, X.setOther n4 _, R.setOther n6 _, O.setOther (fun h => n2 h.symm) _, HB.out.setCell (p := ⟨g1, k, none⟩) n8 _⟩
          case measure => simp [intOf]; omega
        · skip
          have HV2 : Hid (canon .f32 1065353216 = gradeG wd hi wi mo ys k) := Lib.hid (by rw [HGK.out]; have h9 := HV.out; rw [if_pos (by simpa using hgt)] at h9; exact h9)
          have HN3 := Lib.hid (HN2.out 1065353216 (by decide) HV2.out)
          clear HV HV2 HZ
          obtain ⟨cs, tt9, _, hblk, hvv⟩ := own_some W1.out; obtain ⟨gcc, gcf⟩ := hblk.open; have f0 : v7.cell? ⟨g1, k, none⟩ = some _ := (gcc _).trans (hvv k _ (fvals_get kL)); have GF := gcf k; clear gcc gcf hvv hblk
          have hp := own_put W1.out k (.float .f32 1065353216) (by rw [fvals_length]; exact kL)
          rw [fvals_set] at hp
          have HP2 := Lib.hid hp; clear hp
          obtain ⟨Oc, Of⟩ := O.open
          go_wp2
          go_roundw
          case rel => exact ⟨k + 1, _, by omega, by go_num, HN3.out, W0.out.set (fun x hx => by cases hx; exact n9) _, HP2.out, X.setOther n4 _, R.setOther n6 _, O.setOther (fun h => n2 h.symm) _, HB.out.setCell (p := ⟨g1, k, none⟩) n8 _⟩
          case measure => simp [intOf]; omega
    · skip
      obtain rfl : k = n := by omega
      obtain ⟨Oc, Of⟩ := O.open
      obtain ⟨Rc, Rf⟩ := R.open
      go_wp2
      refine bodyPost_ret (v := .tuple #[.agg #[.int .i64 wd, .int .i64 hi, .bool wb, .slice (some ⟨g0, 0, none⟩) k c0, .slice (some ⟨g1, 0, none⟩) k c1], .bool true]) (by simp [results, Try.results20, go_sem, Rc]) rfl (has_yes HBT.out HX.out (by rw [HM2.out.len, HY.out]) ⟨(((((W0.out.set (p := ⟨w.heap.size + 1, 0, none⟩) (ne_block (h := w.heap.size + 1) (by omega)) _).set (p := ⟨w.heap.size + 1, 1, none⟩) (ne_block (h := w.heap.size + 1) (by omega)) _).set (p := ⟨w.heap.size + 1, 2, none⟩) (ne_block (h := w.heap.size + 1) (by omega)) _).set (p := ⟨w.heap.size + 1, 3, none⟩) (ne_block (h := w.heap.size + 1) (by omega)) _).set (p := ⟨w.heap.size + 1, 4, none⟩) (ne_block (h := w.heap.size + 1) (by omega)) _), (((((W1.out.set (p := ⟨w.heap.size + 1, 0, none⟩) (ne_block (h := w.heap.size + 1) (by omega)) _).set (p := ⟨w.heap.size + 1, 1, none⟩) (ne_block (h := w.heap.size + 1) (by omega)) _).set (p := ⟨w.heap.size + 1, 2, none⟩) (ne_block (h := w.heap.size + 1) (by omega)) _).set (p := ⟨w.heap.size + 1, 3, none⟩) (ne_block (h := w.heap.size + 1) (by omega)) _).set (p := ⟨w.heap.size + 1, 4, none⟩) (ne_block (h := w.heap.size + 1) (by omega)) _), apart_ne n9, (Is.refl qa (by rw [HX.out]; exact n256)), HT.out L HM2.out, (((((HB.out.setCell (p := ⟨w.heap.size + 1, 0, none⟩) (by first | omega | (simp <;> omega)) _).setCell (p := ⟨w.heap.size + 1, 1, none⟩) (by first | omega | (simp <;> omega)) _).setCell (p := ⟨w.heap.size + 1, 2, none⟩) (by first | omega | (simp <;> omega)) _).setCell (p := ⟨w.heap.size + 1, 3, none⟩) (by first | omega | (simp <;> omega)) _).setCell (p := ⟨w.heap.size + 1, 4, none⟩) (by first | omega | (simp <;> omega)) _)⟩)

end Go.Proofs.Ythihemfegjaenaa
