/- Several texts in one: facts on floats, lists, memory and the functions that the theorems beside this text use. Conditions: none beyond those of each theorem. -/
import Derived.Test.YthihemfegjaenaaBu24
import Derived.Test.YthihemfegjaenaaPhasor2
import Derived.Test.YthihemfegjaenaaBu0

set_option linter.unusedVariables false

section

namespace Go.Proofs.Ythihemfegjaenaa
open Go Ieee Go.RowKit
set_option linter.unusedVariables false
set_option linter.unusedSimpArgs false

abbrev CC := Option Nat × Option Nat
def addCC (a b : CC) : CC := (fop .add .f32 a.1 b.1, fop .add .f32 a.2 b.2)
def scaleC (p : CC) (x : Option Nat) : CC := (fop .mul .f32 p.1 x, fop .mul .f32 p.2 x)
def phasorC : Option Nat → CC
  | none => (none, none)
  | some t => phasorN t
def argC (k : Int) (tu : Option Nat) : Option Nat := (fop .mul .f64 (canon .f64 (floatOfInt .f64 k)) (fconv .f32 .f64 tu)).map (Op.negFloat .f64)
def termC (x : Option Nat) (k : Int) (tu : Option Nat) : CC := scaleC (phasorC (argC k tu)) x
def binS (xs : List Nat) (tu : Option Nat) : Nat → CC
  | 0 => (canon .f32 0, canon .f32 0)
  | k + 1 => addCC (binS xs tu k) (termC (canon .f32 (xs.getD k 0)) k tu)

theorem phasor_canon (t : Nat) : phasorN t = phasorC (canon .f64 t) := by
  cases hc : canon .f64 t with
  | none =>
    have hn := canon_none.1 hc
    have h : finB .f64 t = false := by
      have h2 : isN .f64 t = true := hn
      rw [isN_iff] at h2
      exact decide_eq_false (Nat.not_lt.2 (Nat.le_of_lt h2))
    unfold phasorN; rw [h]; rfl
  | some c =>
    obtain ⟨rfl, _⟩ := canon_some hc
    rfl

section
variable {P : Program} {ops : Array Oper} {Q : Exit → Act → World → Prop} {S : World → Prop} {a : Act} {w : World} {rest : List Oper} {o : Oper}
theorem run_cadd (w : World) (p q r s : Nat) : ∃ u v n, (Op.complexOp .add .f32 p q r s).run P w = .ok (.complex .f32 u v) (w.drewN n) ∧ canon .f32 u = fop .add .f32 (canon .f32 p) (canon .f32 r) ∧ canon .f32 v = fop .add .f32 (canon .f32 q) (canon .f32 s) ∧ u < 2 ^ 32 ∧ v < 2 ^ 32 := by
  obtain ⟨u, n, h1, h2, h3⟩ := run_arith_any (P := P) w .add (.inl rfl) .f32 p r
  obtain ⟨v, m, g1, g2, g3⟩ := run_arith_any (P := P) (w.drewN n) .add (.inl rfl) .f32 q s
  refine ⟨u, v, n + m, ?_, h2, g2, h3, g3⟩
  unfold Op.complexOp Op.Complex.arith
  simp only [Sem.run_bind, h1, Result.andThen_ok, g1, Sem.run_pure]
  rw [World.drewN_drewN]

/-- AN ARM: the sum of two complex numbers of 32 bits. -/
theorem wpList_cadd (hgd : o.guard = none) (t t2 : TypeId) (x y : Operand) (ho : o.op = .binOp .add t x y t2) (p q r s : Nat) (hx : a.eval x = .complex .f32 p q) (hy : a.eval y = .complex .f32 r s)
    (h : ∀ u v n, canon .f32 u = fop .add .f32 (canon .f32 p) (canon .f32 r) → canon .f32 v = fop .add .f32 (canon .f32 q) (canon .f32 s) → u < 2 ^ 32 → v < 2 ^ 32 → wpList P ops Q rest (a.put o.dst (.complex .f32 u v)) (w.drewN n)) : wpList P ops Q (o :: rest) a w :=
  wpList_plain hgd fun K hK => by
    obtain ⟨u, v, n, hr, h1, h2, h3, h4⟩ := run_cadd (P := P) w p q r s
    unfold Oper.wp execOp
    have e : binOp .add t (.complex .f32 p q) (.complex .f32 r s) = Op.complexOp .add .f32 p q r s := by simp [binOp]
    have g : eqGuard .add t x y (.complex .f32 p q) (.complex .f32 r s) = pure () := rfl
    simp only [ho, hx, hy, g, e, Sem.run_bind, Sem.run_pure, Result.andThen_ok, hr]
    exact hK _ _ (h u v n h1 h2 h3 h4)
end

set_option maxHeartbeats 2000000 in
set_option maxRecDepth 100000 in
theorem specScaleC (p q x : Nat) (w : World) : Calls Try.prog 103 #[.complex .f32 p q, .float .f32 x] w fun e w' => ∃ a b, e = .returned (.complex .f32 a b) ∧ canon .f32 a = (scaleC (canon .f32 p, canon .f32 q) (canon .f32 x)).1 ∧ canon .f32 b = (scaleC (canon .f32 p, canon .f32 q) (canon .f32 x)).2 ∧ a < 2 ^ 32 ∧ b < 2 ^ 32 ∧ Below w.heap.size w w' := by
  have tok1 : True := trivial; have tok2 : True := trivial
  have HB : Hid (Below w.heap.size w w) := Lib.hid (Below.refl _ _)
  go_enter Try.func103, Try.ntmps103
  go_wp2_with (first | (have _t := tok1; refine wpList_arith rfl _ _ _ _ _ rfl rfl .f32 _ _ rfl rfl ?_; intro z1 nn1 hc hb_1; have H_1 := Lib.hid hc; clear hc _t tok1; replace hb_1 : z1 < 2 ^ 32 := hb_1; have q_ : Below w.heap.size w (w.drewN nn1) := below_drewN (Below.refl _ _) _; replace HB := Lib.hid (HB.out.trans (q_.mono HB.out.size)); clear q_; generalize w.drewN nn1 = v1 at *) | (have _t := tok2; refine wpList_arith rfl _ _ _ _ _ rfl rfl .f32 _ _ rfl rfl ?_; intro z2 nn2 hc hb_2; have H_2 := Lib.hid hc; clear hc _t tok2; replace hb_2 : z2 < 2 ^ 32 := hb_2; have q_ : Below v1.heap.size v1 (v1.drewN nn2) := below_drewN (Below.refl _ _) _; replace HB := Lib.hid (HB.out.trans (q_.mono HB.out.size)); clear q_; generalize v1.drewN nn2 = v2 at *))
  go_ret
  exact ⟨z1, z2, rfl, H_1.out, H_2.out, hb_1, hb_2, HB.out⟩

set_option maxHeartbeats 2000000 in
set_option maxRecDepth 100000 in
theorem implScaleC (p q x : Nat) (w : World) : Calls Try.prog 106 #[.complex .f32 p q, .float .f32 x] w fun e w' => ∃ a b, e = .returned (.complex .f32 a b) ∧ canon .f32 a = (scaleC (canon .f32 p, canon .f32 q) (canon .f32 x)).1 ∧ canon .f32 b = (scaleC (canon .f32 p, canon .f32 q) (canon .f32 x)).2 ∧ a < 2 ^ 32 ∧ b < 2 ^ 32 ∧ Below w.heap.size w w' := by
  have tok1 : True := trivial; have tok2 : True := trivial
  have HB : Hid (Below w.heap.size w w) := Lib.hid (Below.refl _ _)
  go_enter Try.func106, Try.ntmps106
  go_wp2_with (first | (go_at_call 71; have _t := tok1; clear _t tok1; refine (mulN _ _ _).mono ?_; rintro e v1 ⟨z1, mm1, rfl, hw, hm, hb_1⟩; have H_1 := Lib.hid hm; clear hm; have q_ : Below w.heap.size w v1 := (by rw [hw]; exact below_drewN (Below.refl _ _) _); replace HB := Lib.hid (HB.out.trans (q_.mono HB.out.size)); clear hw q_) | (go_at_call 71; have _t := tok2; clear _t tok2; refine (mulN _ _ _).mono ?_; rintro e v2 ⟨z2, mm2, rfl, hw, hm, hb_2⟩; have H_2 := Lib.hid hm; clear hm; have q_ : Below v1.heap.size v1 v2 := (by rw [hw]; exact below_drewN (Below.refl _ _) _); replace HB := Lib.hid (HB.out.trans (q_.mono HB.out.size)); clear hw q_))
  go_ret
  exact ⟨z1, z2, rfl, H_1.out, H_2.out, hb_1, hb_2, HB.out⟩

set_option maxHeartbeats 4000000 in
set_option maxRecDepth 100000 in
theorem specTerm (x tu : Nat) (k : Int) (w : World) (ht : tu < 2 ^ 32) : Calls Try.prog 100 #[.float .f32 x, .int .i64 k, .float .f32 tu] w fun e w' => ∃ a b, e = .returned (.complex .f32 a b) ∧ canon .f32 a = (termC (canon .f32 x) k (canon .f32 tu)).1 ∧ canon .f32 b = (termC (canon .f32 x) k (canon .f32 tu)).2 ∧ a < 2 ^ 32 ∧ b < 2 ^ 32 ∧ Below w.heap.size w w' := by
  have tok1 : True := trivial; have tok2 : True := trivial
  have HB : Hid (Below w.heap.size w w) := Lib.hid (Below.refl _ _)
  go_enter Try.func100, Try.ntmps100
  go_wp2_with (first | (have _t := tok1; refine wpList_conv rfl 36 114 _ rfl .f32 .f64 (by decide) _ rfl Try.underlying36 Try.underlying114 ht (fits_widen _) ?_; intro z1 nn1 hc hb_1; clear _t tok1; replace hb_1 : z1 < 2 ^ 64 := hb_1; have H_1 := Lib.hid hc; clear hc; have q_ : Below w.heap.size w (w.drewN nn1) := below_drewN (Below.refl _ _) _; replace HB := Lib.hid (HB.out.trans (q_.mono HB.out.size)); clear q_; generalize w.drewN nn1 = v1 at *) | (have _t := tok2; refine wpList_arith rfl _ _ _ _ _ rfl rfl .f64 _ _ rfl rfl ?_; intro z2 nn2 hc hb_2; have H_2 := Lib.hid hc; clear hc _t tok2; replace hb_2 : z2 < 2 ^ 64 := hb_2; have q_ : Below v1.heap.size v1 (v1.drewN nn2) := below_drewN (Below.refl _ _) _; replace HB := Lib.hid (HB.out.trans (q_.mono HB.out.size)); clear q_; generalize v1.drewN nn2 = v2 at *) | (go_at_call 104; refine (specPhasor _ _).mono ?_; rintro e v3 ⟨pa, pb, m9, rfl, hw, ha, hb, la, lb⟩; have H_a := Lib.hid ha; have H_b := Lib.hid hb; clear ha hb la lb; have q_ : Below v2.heap.size v2 v3 := (by rw [hw]; exact below_drewN (Below.refl _ _) _); replace HB := Lib.hid (HB.out.trans (q_.mono HB.out.size)); clear hw q_) | (go_at_call 103; refine (specScaleC _ _ _ _).mono ?_; rintro e v4 ⟨sa, sb, rfl, ha, hb, la, lb, q_⟩; have H_sa := Lib.hid ha; have H_sb := Lib.hid hb; clear ha hb; replace HB := Lib.hid (HB.out.trans (q_.mono HB.out.size)); clear q_))
  go_ret
  have hn := neg_canon z2 hb_2
  have HP : phasorN (Op.negFloat .f64 z2) = phasorC (argC k (canon .f32 tu)) := by rw [phasor_canon, hn.1, H_2.out, H_1.out]; rfl
  rw [HP] at H_a H_b
  exact ⟨sa, sb, rfl, by rw [H_sa.out, H_a.out, H_b.out]; rfl, by rw [H_sb.out, H_a.out, H_b.out]; rfl, la, lb, HB.out⟩

end Go.Proofs.Ythihemfegjaenaa

end

section

namespace Go.Proofs.Ythihemfegjaenaa
open Go Ieee Go.RowKit
set_option linter.unusedVariables false
set_option linter.unusedSimpArgs false

def zeroCC : CC := (canon .f32 0, canon .f32 0)
def ifCC (b : Bool) (A : CC) : CC := if b then A else zeroCC
def GaveCx (w : World) (b : Bool) (A : CC) (e : Ending) (w' : World) : Prop := ∃ p q, e = .returned (.tuple #[.complex .f32 p q, .bool b]) ∧ canon .f32 p = (ifCC b A).1 ∧ canon .f32 q = (ifCC b A).2 ∧ p < 2 ^ 32 ∧ q < 2 ^ 32 ∧ Below w.heap.size w w'
def binB (xs : List Nat) (tu : Nat) : Bool := lenB xs.length && finB .f32 tu
theorem gaveCx_no {w w' : World} {b : Bool} {A : CC} (hb : b = false) (h : Below w.heap.size w w') : GaveCx w b A (.returned (.tuple #[.complex .f32 0 0, .bool false])) w' := by subst hb; exact ⟨0, 0, rfl, rfl, rfl, by decide, by decide, h⟩
theorem gaveCx_yes {w w' : World} {b : Bool} {A : CC} {p q : Nat} (hb : b = true) (h1 : canon .f32 p = A.1) (h2 : canon .f32 q = A.2) (l1 : p < 2 ^ 32) (l2 : q < 2 ^ 32) (h : Below w.heap.size w w') : GaveCx w b A (.returned (.tuple #[.complex .f32 p q, .bool true])) w' := by subst hb; exact ⟨p, q, rfl, h1, h2, l1, l2, h⟩
theorem gaveCx_not {w w' : World} {b : Bool} {A : CC} {e : Ending} (hb : b = false) (h : GaveCx w false A e w') : GaveCx w b A e w' := by subst hb; exact h

section
variable {P : Program} {ops : Array Oper} {Q : Exit → Act → World → Prop} {S : World → Prop} {K : Act → World → Prop} {i : Nat} {r : List (Nat × Bool)} {a : Act} {w : World} {dst : Option Tmp} {ty : TypeId} {pos : String} {after : Array Edge} {guard : Option (Nat × Bool)}
/-- a sum of complex numbers by a plan -/
theorem plan_cadd {o : Oper} (h0 : ops[i]? = some o) (hg : o.guard = none) (t t2 : TypeId) (x y : Operand) (ho : o.op = .binOp .add t x y t2) (p q r' s : Nat) (hx : a.eval x = .complex .f32 p q) (hy : a.eval y = .complex .f32 r' s)
    (h : ∀ u v n, canon .f32 u = fop .add .f32 (canon .f32 p) (canon .f32 r') → canon .f32 v = fop .add .f32 (canon .f32 q) (canon .f32 s) → u < 2 ^ 32 → v < 2 ^ 32 → S (w.drewN n) ∧ planWalk P ops S Q K r (a.put o.dst (.complex .f32 u v)) (w.drewN n)) : planWalk P ops S Q K ((i, false) :: r) a w := by
  refine ⟨_, h0, ?_⟩
  refine wpList_cadd hg t t2 x y ho p q r' s hx hy ?_
  intro u v n h1 h2 h3 h4
  exact h u v n h1 h2 h3 h4
end

set_option maxHeartbeats 8000000 in
set_option maxRecDepth 100000 in
theorem implGrown (tu p q x : Nat) (k : Int) (w : World) (ht : tu < 2 ^ 32) (k0 : 0 ≤ k) (k1 : k ≤ 1000000) : Calls Try.prog 131 #[.agg #[.float .f32 tu, .int .i64 k, .complex .f32 p q], .float .f32 x] w fun e w' => ∃ a b, e = .returned (.agg #[.float .f32 tu, .int .i64 (k + 1), .complex .f32 a b]) ∧ canon .f32 a = (addCC (canon .f32 p, canon .f32 q) (termC (canon .f32 x) k (canon .f32 tu))).1 ∧ canon .f32 b = (addCC (canon .f32 p, canon .f32 q) (termC (canon .f32 x) k (canon .f32 tu))).2 ∧ a < 2 ^ 32 ∧ b < 2 ^ 32 ∧ Below w.heap.size w w' := by
  have tok1 : True := trivial; have tok2 : True := trivial
  have X := Blk.new w #[.float .f32 tu, .int .i64 k, .complex .f32 p q] 118
  have R := Blk.new1 w (.cells #[.float .f32 tu, .int .i64 k, .complex .f32 p q] 118) #[.float .f32 0, .int .i64 0, .complex .f32 0 0] 118
  replace X := X.alloc (.cells #[.float .f32 0, .int .i64 0, .complex .f32 0 0] 118)
  have HB : Hid (Below w.heap.size w ((w.alloc (.cells #[.float .f32 tu, .int .i64 k, .complex .f32 p q] 118)).alloc (.cells #[.float .f32 0, .int .i64 0, .complex .f32 0 0] 118))) := Lib.hid (((Below.refl w.heap.size w).alloc (by simp <;> omega) _).alloc (by simp <;> omega) _)
  go_enter Try.func131, Try.ntmps131
  go_upto_region 1 with (fail)
  generalize ((w.alloc (.cells #[.float .f32 tu, .int .i64 k, .complex .f32 p q] 118)).alloc (.cells #[.float .f32 0, .int .i64 0, .complex .f32 0 0] 118)) = u1 at *
  obtain ⟨Xc, Xf⟩ := X.open
  go_upto_region 2 with (first | (have _t := tok1; refine wpList_conv rfl 36 114 _ rfl .f32 .f64 (by decide) _ rfl Try.underlying36 Try.underlying114 ht (fits_widen _) ?_; intro z1 nn1 hc hb_1; clear _t tok1; replace hb_1 : z1 < 2 ^ 64 := hb_1; have H_1 := Lib.hid hc; clear hc; have q_ : Below u1.heap.size u1 (u1.drewN nn1) := below_drewN (Below.refl _ _) _; replace HB := Lib.hid (HB.out.trans (q_.mono HB.out.size)); replace X := X.later q_; replace R := R.later q_; obtain ⟨Xc, Xf⟩ := X.open; clear q_; generalize u1.drewN nn1 = v1 at *) | (have _t := tok2; refine wpList_arith rfl _ _ _ _ _ rfl rfl .f64 _ _ rfl rfl ?_; intro z2 nn2 hc hb_2; have H_2 := Lib.hid hc; clear hc _t tok2; replace hb_2 : z2 < 2 ^ 64 := hb_2; have q_ : Below v1.heap.size v1 (v1.drewN nn2) := below_drewN (Below.refl _ _) _; replace HB := Lib.hid (HB.out.trans (q_.mono HB.out.size)); replace X := X.later q_; replace R := R.later q_; obtain ⟨Xc, Xf⟩ := X.open; clear q_; generalize v1.drewN nn2 = v2 at *))
  have HBU := HB.out; have zr := R.lt; have zu := HBU.size
  clear Xc Xf
  obtain ⟨Xc, Xf⟩ := X.open
  have acx : ∀ w, (isAgg 60).run Try.prog w = .ok false w := fun w => by kernel_rfl
  have hng := neg_canon z2 hb_2
  refine wp_region_noPanic ?_
  refine wp_region_plan (Grows v2) 8 [(0, true), (1, true), (2, true), (3, true), (5, true), (4, false), (6, false), (7, false)] (by kernel_rfl) (by kernel_rfl) (fun _ _ _ _ _ h => h) (Grows.drew _) ?_
  (refine plan_plain rfl rfl ?_ ?_ ?_; rotate_left; focus (intro w9; go_simp <;> with_reducible rfl)); (simp only [Act.put, List.setIfInBounds_toArray, List.set_cons_zero, List.set_cons_succ])
  (refine plan_load rfl rfl (⟨w.heap.size, 2, none⟩) (by kernel_rfl) (.complex .f32 p q) (load_cell acx (Xc 2)) ?_; simp only [Act.put, List.setIfInBounds_toArray, List.set_cons_zero, List.set_cons_succ])
  (refine plan_plain rfl rfl ?_ ?_ ?_; rotate_left; focus (intro w9; go_simp <;> with_reducible rfl)); (simp only [Act.put, List.setIfInBounds_toArray, List.set_cons_zero, List.set_cons_succ])
  (refine plan_plain rfl rfl ?_ ?_ ?_; rotate_left; focus (intro w9; go_simp <;> with_reducible rfl)); (simp only [Act.put, List.setIfInBounds_toArray, List.set_cons_zero, List.set_cons_succ])
  (refine plan_plain rfl rfl ?_ ?_ ?_; rotate_left; focus (intro w9; go_simp <;> with_reducible rfl)); (simp only [Act.put, List.setIfInBounds_toArray, List.set_cons_zero, List.set_cons_succ])
  have v0_ := Grows.drew v2
  generalize v2.drew = y0 at *
  refine plan_call rfl rfl 147 #[] #[] rfl _ Try.func147 (by kernel_rfl) (by kernel_rfl) [.float .f64 (Op.negFloat .f64 z2)] (by kernel_rfl) #[.float .f64 (Op.negFloat .f64 z2)] (by simp) _ (implPhasor (Op.negFloat .f64 z2) y0 hng.2) ?_
  rintro e y1 ⟨pa, pb, m9, rfl, hw, ha, hb, la, lb⟩
  refine ⟨_, rfl, v0_.next (by rw [hw]; exact below_drewN (Below.refl _ _) _), ?_⟩
  simp only [Act.put, List.setIfInBounds_toArray, List.set_cons_zero, List.set_cons_succ]
  have v1_ := v0_.next (show Below y0.heap.size y0 y1 by rw [hw]; exact below_drewN (Below.refl _ _) _); have H_a := Lib.hid ha; have H_b := Lib.hid hb; clear ha hb la lb hw
  refine plan_call rfl rfl 106 #[] #[] rfl _ Try.func106 (by kernel_rfl) (by kernel_rfl) [.complex .f32 pa pb, .float .f32 x] (by kernel_rfl) #[.complex .f32 pa pb, .float .f32 x] (by simp) _ (implScaleC pa pb x y1) ?_
  rintro e y2 ⟨sa, sb, rfl, ha, hb, la, lb, b⟩
  refine ⟨_, rfl, v1_.next b, ?_⟩
  simp only [Act.put, List.setIfInBounds_toArray, List.set_cons_zero, List.set_cons_succ]
  have v2_ := v1_.next b; have H_sa := Lib.hid ha; have H_sb := Lib.hid hb; clear ha hb b
  refine plan_cadd rfl rfl _ _ _ _ rfl p q sa sb rfl rfl ?_
  intro ta tb nn ha hb lta ltb
  have v3_ := v2_.next (show Below y2.heap.size y2 (y2.drewN nn) from below_drewN (Below.refl _ _) _)
  refine ⟨v3_, ?_⟩
  simp only [Act.put, List.setIfInBounds_toArray, List.set_cons_zero, List.set_cons_succ]
  have H_ta := Lib.hid ha; have H_tb := Lib.hid hb; clear ha hb
  generalize y2.drewN nn = y3 at *
  change wpList _ _ _ _ _ _
  simp only [List.drop_succ_cons, List.drop_zero]
  have HB4 := Lib.hid (HBU.trans (Below.mono v3_ zu))
  have X4 := X.later v3_; have R4 := R.later v3_
  clear v0_ v1_ v2_ v3_ Xc Xf X R HB
  obtain ⟨Xc, Xf⟩ := X4.open; obtain ⟨Rc, Rf⟩ := R4.open
  go_wp2_with fail
  refine NoPanic.normal ?_
  go_wp2
  have HP : phasorN (Op.negFloat .f64 z2) = phasorC (argC k (canon .f32 tu)) := by rw [phasor_canon, hng.1, H_2.out, H_1.out]; rfl
  rw [HP] at H_a H_b
  refine bodyPost_ret (v := .agg #[.float .f32 tu, .int .i64 (k + 1), .complex .f32 ta tb]) (by simp [results, Try.results131, go_sem, Rc]) rfl ⟨ta, tb, rfl, by rw [H_ta.out, H_sa.out, H_a.out, H_b.out]; rfl, by rw [H_tb.out, H_sb.out, H_a.out, H_b.out]; rfl, lta, ltb, (((((HB4.out.setCell (p := ⟨w.heap.size, 2, none⟩) (by first | omega | (simp <;> omega)) _).setCell (p := ⟨w.heap.size, 1, none⟩) (by first | omega | (simp <;> omega)) _).setCell (p := ⟨w.heap.size + 1, 0, none⟩) (by first | omega | (simp <;> omega)) _).setCell (p := ⟨w.heap.size + 1, 1, none⟩) (by first | omega | (simp <;> omega)) _).setCell (p := ⟨w.heap.size + 1, 2, none⟩) (by first | omega | (simp <;> omega)) _)⟩

end Go.Proofs.Ythihemfegjaenaa

end

section

namespace Go.Proofs.Ythihemfegjaenaa
open Go Ieee Go.RowKit
set_option linter.unusedVariables false
set_option linter.unusedSimpArgs false

theorem implTick (k : Int) (w : World) (k0 : 0 ≤ k) (k1 : k ≤ 1000000) : Calls Try.prog 130 #[.int .i64 k] w fun e w' => e = .returned (.bool true) ∧ w = w' := by
  have d1 : decide (0 ≤ k) = true := decide_eq_true k0; have d2 : decide (k ≤ 1000000) = true := decide_eq_true k1
  go_enter Try.func130, Try.ntmps130
  go_wp2
  go_ret
  exact ⟨rfl, rfl⟩

theorem implValidBin (tu p q : Nat) (k : Int) (w : World) (ht : tu < 2 ^ 32) (k0 : 0 ≤ k) (k1 : k ≤ 1000000) : Calls Try.prog 129 #[.agg #[.float .f32 tu, .int .i64 k, .complex .f32 p q]] w fun e w' => e = .returned (.bool (finB .f32 tu)) ∧ Below w.heap.size w w' := by
  rcases hf : finB .f32 tu with _ | _
  · skip
    have H_f := Lib.hid hf; clear hf
    have X := Blk.new w #[.float .f32 tu, .int .i64 k, .complex .f32 p q] 118
    have HB : Hid (Below w.heap.size w (w.alloc (.cells #[.float .f32 tu, .int .i64 k, .complex .f32 p q] 118))) := Lib.hid ((Below.refl w.heap.size w).alloc (by simp <;> omega) _)
    go_enter Try.func129, Try.ntmps129
    go_wp2_with fail
    generalize (w.alloc (.cells #[.float .f32 tu, .int .i64 k, .complex .f32 p q] 118)) = u1 at *
    refine (implFinite _ _ ht).mono ?_
    rintro r u2 ⟨rfl, nq, hw⟩
    have q : Below u1.heap.size u1 u2 := by rw [hw]; exact below_drewN (Below.refl _ _) _
    clear hw
    replace X := X.later q
    replace HB := Lib.hid (HB.out.trans (q.mono HB.out.size))
    clear q
    rw [H_f.out]
    go_wp2
    go_ret
    exact ⟨rfl, HB.out⟩
  have H_f := Lib.hid hf; clear hf
  have X := Blk.new w #[.float .f32 tu, .int .i64 k, .complex .f32 p q] 118
  have HB : Hid (Below w.heap.size w (w.alloc (.cells #[.float .f32 tu, .int .i64 k, .complex .f32 p q] 118))) := Lib.hid ((Below.refl w.heap.size w).alloc (by simp <;> omega) _)
  go_enter Try.func129, Try.ntmps129
  go_wp2_with fail
  generalize (w.alloc (.cells #[.float .f32 tu, .int .i64 k, .complex .f32 p q] 118)) = u1 at *
  refine (implFinite _ _ ht).mono ?_
  rintro r u2 ⟨rfl, nq, hw⟩
  have q : Below u1.heap.size u1 u2 := by rw [hw]; exact below_drewN (Below.refl _ _) _
  clear hw
  replace X := X.later q
  replace HB := Lib.hid (HB.out.trans (q.mono HB.out.size))
  clear q
  rw [H_f.out]
  obtain ⟨Xc, Xf⟩ := X.open
  go_wp2_with fail
  refine (implTick _ _ k0 k1).mono ?_
  rintro r w9 ⟨rfl, rfl⟩
  go_wp2
  go_ret
  exact ⟨rfl, HB.out⟩

set_option maxHeartbeats 8000000 in
set_option maxRecDepth 100000 in
theorem implRunBin (tu : Nat) (ad : Option Addr) (ca n : Nat) (xs : List Nat) (w : World) (ht : tu < 2 ^ 32) (hx : RowV w ad (fvals xs)) (hn : xs.length = n) (h64 : n ≤ 64) (n0 : 0 < n) : Calls Try.prog 102 #[.agg #[.float .f32 tu, .int .i64 0, .complex .f32 0 0], .slice ad n ca] w fun e w' => (finB .f32 tu = false ∧ e = .returned (.tuple #[.agg #[.float .f32 0, .int .i64 0, .complex .f32 0 0], .bool false]) ∧ Below w.heap.size w w') ∨ (finB .f32 tu = true ∧ ∃ a9 b9, e = .returned (.tuple #[.agg #[.float .f32 tu, .int .i64 n, .complex .f32 a9 b9], .bool true]) ∧ canon .f32 a9 = (binS xs (canon .f32 tu) n).1 ∧ canon .f32 b9 = (binS xs (canon .f32 tu) n).2 ∧ a9 < 2 ^ 32 ∧ b9 < 2 ^ 32 ∧ Below w.heap.size w w') := by
  have HN := Lib.hid hn; clear hn
  have hn64 : (n : Int) ≤ 64 := by omega
  rcases hf : finB .f32 tu with _ | _
  · skip
    have H_f := Lib.hid hf; clear hf
    have X := Blk.new w #[.float .f32 tu, .int .i64 0, .complex .f32 0 0] 118
    have R := Blk.new1 w (.cells #[.float .f32 tu, .int .i64 0, .complex .f32 0 0] 118) #[.float .f32 0, .int .i64 0, .complex .f32 0 0] 118
    replace X := X.alloc (.cells #[.float .f32 0, .int .i64 0, .complex .f32 0 0] 118)
    have HB : Hid (Below w.heap.size w ((w.alloc (.cells #[.float .f32 tu, .int .i64 0, .complex .f32 0 0] 118)).alloc (.cells #[.float .f32 0, .int .i64 0, .complex .f32 0 0] 118))) := Lib.hid (((Below.refl w.heap.size w).alloc (by simp <;> omega) _).alloc (by simp <;> omega) _)
    go_enter Try.func102, Try.ntmps102
    go_wp2_with fail
    generalize ((w.alloc (.cells #[.float .f32 tu, .int .i64 0, .complex .f32 0 0] 118)).alloc (.cells #[.float .f32 0, .int .i64 0, .complex .f32 0 0] 118)) = u1 at *
    refine (implValidBin _ _ _ _ _ ht (by omega) (by omega)).mono ?_
    rintro r u2 ⟨rfl, q⟩
    replace X := X.later q
    replace R := R.later q
    replace HB := Lib.hid (HB.out.trans (q.mono HB.out.size))
    clear q
    rw [H_f.out]
    obtain ⟨Rc, Rf⟩ := R.open
    go_wp2
    refine bodyPost_ret (v := .tuple #[.agg #[.float .f32 0, .int .i64 0, .complex .f32 0 0], .bool false]) (by simp [results, Try.results102, go_sem, Rc]) rfl (.inl ⟨(by trivial), rfl, (((HB.out.setCell (p := ⟨w.heap.size + 1, 0, none⟩) (by first | omega | (simp <;> omega)) _).setCell (p := ⟨w.heap.size + 1, 1, none⟩) (by first | omega | (simp <;> omega)) _).setCell (p := ⟨w.heap.size + 1, 2, none⟩) (by first | omega | (simp <;> omega)) _)⟩)
  have H_f := Lib.hid hf; clear hf
  have X := Blk.new w #[.float .f32 tu, .int .i64 0, .complex .f32 0 0] 118
  have R := Blk.new1 w (.cells #[.float .f32 tu, .int .i64 0, .complex .f32 0 0] 118) #[.float .f32 0, .int .i64 0, .complex .f32 0 0] 118
  replace X := X.alloc (.cells #[.float .f32 0, .int .i64 0, .complex .f32 0 0] 118)
  have HB : Hid (Below w.heap.size w ((w.alloc (.cells #[.float .f32 tu, .int .i64 0, .complex .f32 0 0] 118)).alloc (.cells #[.float .f32 0, .int .i64 0, .complex .f32 0 0] 118))) := Lib.hid (((Below.refl w.heap.size w).alloc (by simp <;> omega) _).alloc (by simp <;> omega) _)
  go_enter Try.func102, Try.ntmps102
  go_wp2_with fail
  generalize ((w.alloc (.cells #[.float .f32 tu, .int .i64 0, .complex .f32 0 0] 118)).alloc (.cells #[.float .f32 0, .int .i64 0, .complex .f32 0 0] 118)) = u1 at *
  refine (implValidBin _ _ _ _ _ ht (by omega) (by omega)).mono ?_
  rintro r u2 ⟨rfl, q⟩
  replace X := X.later q
  replace R := R.later q
  replace HB := Lib.hid (HB.out.trans (q.mono HB.out.size))
  clear q
  rw [H_f.out]
  obtain ⟨Xc, Xf⟩ := X.open
  go_wp2_with fail
  refine (implTick _ _ (by omega) (by omega)).mono ?_
  rintro r w9 ⟨rfl, rfl⟩
  have HZ : Hid (canon .f32 0 = (binS xs (canon .f32 tu) 0).1 ∧ canon .f32 0 = (binS xs (canon .f32 tu) 0).2) := Lib.hid ⟨rfl, rfl⟩
  go_wp2
  go_loopw [28] (fun iv wr => ∃ k a9 b9 : Nat, k ≤ n ∧ iv = .int .i64 k ∧ canon .f32 a9 = (binS xs (canon .f32 tu) k).1 ∧ canon .f32 b9 = (binS xs (canon .f32 tu) k).2 ∧ a9 < 2 ^ 32 ∧ b9 < 2 ^ 32 ∧ Blk wr w.heap.size #[.float .f32 tu, .int .i64 k, .complex .f32 a9 b9] 118 ∧ Blk wr (w.heap.size + 1) #[.float .f32 0, .int .i64 0, .complex .f32 0 0] 118 ∧ Below w.heap.size w wr) (fun iv _ => n - (intOf iv).toNat)
  case atStart => exact ⟨0, 0, 0, Nat.zero_le _, rfl, HZ.out.1, HZ.out.2, by decide, by decide, X, R, HB.out⟩
  case round =>
    obtain ⟨k, a9, b9, hk, rfl, ha, hb, la, lb, X, R, hb5⟩ := hrel
    replace HB := Lib.hid hb5; have HA := Lib.hid ha; have HBB := Lib.hid hb; clear ha hb hb5 HZ
    have xlt := X.lt; have rlt := R.lt
    by_cases hlt : k < n
    · skip
      obtain ⟨ba, oa, rfl, c0⟩ := row_cellN (hx.later HB.out) (show k < xs.length by rw [HN.out]; exact hlt)
      have hki : (k : Int) < (n : Int) := by omega
      have k0 : (0 : Int) ≤ (k : Int) := Int.natCast_nonneg k
      have HS : Hid (addCC (binS xs (canon .f32 tu) k) (termC (canon .f32 (xs.getD k 0)) k (canon .f32 tu)) = binS xs (canon .f32 tu) (k + 1)) := Lib.hid rfl
      generalize xs.getD k 0 = x at *
      obtain ⟨Xc, Xf⟩ := X.open
      go_wp2_with fail
      refine (implGrown tu a9 b9 x (k : Int) _ ht k0 (by omega)).mono ?_
      rintro e w2 ⟨ta, tb, rfl, hta, htb, lta, ltb, q⟩
      have HTA := Lib.hid hta; have HTB := Lib.hid htb; clear hta htb c0
      clear Xc Xf
      replace X := X.later q
      replace R := R.later q
      replace HB := Lib.hid (HB.out.trans (q.mono HB.out.size))
      clear q
      obtain ⟨Xc, Xf⟩ := X.open
      go_wp2
      go_roundw
      case rel => exact ⟨k + 1, ta, tb, by omega, by go_num, by rw [HTA.out, HA.out, HBB.out]; exact congrArg Prod.fst HS.out, by rw [HTB.out, HA.out, HBB.out]; exact congrArg Prod.snd HS.out, lta, ltb, ((X.set 0 _).set 1 _).set 2 _, ((R.setOther (p := ⟨w.heap.size, 0, none⟩) (by simp) _).setOther (p := ⟨w.heap.size, 1, none⟩) (by simp) _).setOther (p := ⟨w.heap.size, 2, none⟩) (by simp) _, (((HB.out.setCell (p := ⟨w.heap.size, 0, none⟩) (by first | omega | (simp <;> omega)) _).setCell (p := ⟨w.heap.size, 1, none⟩) (by first | omega | (simp <;> omega)) _).setCell (p := ⟨w.heap.size, 2, none⟩) (by first | omega | (simp <;> omega)) _)⟩
      case measure => simp [intOf]; omega
    · skip
      obtain rfl : k = n := by omega
      obtain ⟨Xc, Xf⟩ := X.open
      obtain ⟨Rc, Rf⟩ := R.open
      go_wp2
      refine bodyPost_ret (v := .tuple #[.agg #[.float .f32 tu, .int .i64 k, .complex .f32 a9 b9], .bool true]) (by simp [results, Try.results102, go_sem, Rc]) rfl (.inr ⟨(by trivial), a9, b9, rfl, HA.out, HBB.out, la, lb, (((HB.out.setCell (p := ⟨w.heap.size + 1, 0, none⟩) (by first | omega | (simp <;> omega)) _).setCell (p := ⟨w.heap.size + 1, 1, none⟩) (by first | omega | (simp <;> omega)) _).setCell (p := ⟨w.heap.size + 1, 2, none⟩) (by first | omega | (simp <;> omega)) _)⟩)

set_option maxHeartbeats 4000000 in
set_option maxRecDepth 100000 in
theorem implBinOfL (ad : Option Addr) (ca : Nat) (xs : List Nat) (tu : Nat) (w : World) (hx : RowV w ad (fvals xs)) (qx : ∀ z ∈ xs, z < 2 ^ 32) (mx : xs.length ≤ maxLen) (ht : tu < 2 ^ 32) : Calls Try.prog 42 #[.slice ad xs.length ca, .float .f32 tu] w (GaveCx w (binB xs tu) (binS xs (canon .f32 tu) xs.length)) := by
  rcases hl : lenB xs.length with _ | _
  · skip
    have HF : Hid (binB xs tu = false) := Lib.hid (by unfold binB; rw [hl]; rfl)
    have HL := Lib.hid hl; clear hl
    go_enter Try.func42, Try.ntmps42
    go_wp2_with fail
    refine (implRecord _ _ _ _ mx).mono ?_
    rintro e w9 ⟨rfl, rfl⟩
    rw [HL.out]
    go_wp2
    go_ret2
    exact gaveCx_no HF.out (Below.refl _ _)
  have HB0 : Hid (binB xs tu = finB .f32 tu) := Lib.hid (by unfold binB; rw [hl]; rfl)
  obtain ⟨l1, l2⟩ : 1 ≤ (xs.length : Int) ∧ (xs.length : Int) ≤ 64 := of_decide_eq_true hl
  have HL := Lib.hid hl; clear hl
  go_enter Try.func42, Try.ntmps42
  go_wp2_with fail
  refine (implRecord _ _ _ _ mx).mono ?_
  rintro e w9 ⟨rfl, rfl⟩
  rw [HL.out]
  go_wp2_with fail
  refine (implRunBin tu ad ca xs.length xs _ ht hx rfl (by omega) (by omega)).mono ?_
  rintro e w2 (⟨hf, rfl, q⟩ | ⟨hf, a9, b9, rfl, ha, hb, la, lb, q⟩)
  · skip
    have HF := Lib.hid (HB0.out.trans hf); clear hf
    have HQ := Lib.hid q; have qs := q.size; clear q
    go_wp2
    go_ret2
    exact gaveCx_no HF.out (HQ.out.alloc HQ.out.size _)
  · skip
    have HF := Lib.hid (HB0.out.trans hf); clear hf
    have HA := Lib.hid ha; have HBB := Lib.hid hb; clear ha hb
    have HQ := Lib.hid q; have qs := q.size; clear q
    go_wp2
    go_ret2
    exact gaveCx_yes HF.out HA.out HBB.out la lb (HQ.out.alloc HQ.out.size _)

set_option maxHeartbeats 4000000 in
set_option maxRecDepth 100000 in
theorem specBinOfL (ad : Option Addr) (ca : Nat) (xs : List Nat) (tu : Nat) (w : World) (hx : RowV w ad (fvals xs)) (qx : ∀ z ∈ xs, z < 2 ^ 32) (mx : xs.length ≤ maxLen) (ht : tu < 2 ^ 32) : Calls Try.prog 41 #[.slice ad xs.length ca, .float .f32 tu] w (GaveCx w (binB xs tu) (binS xs (canon .f32 tu) xs.length)) := by
  unfold maxLen at mx
  rcases hl : lenB xs.length with _ | _
  · skip
    have HF : Hid (binB xs tu = false) := Lib.hid (by unfold binB; rw [hl]; rfl)
    have HL := Lib.hid hl; clear hl
    go_enter Try.func41, Try.ntmps41
    go_wp2_with fail
    refine (specRecord _ _ _ _ (by unfold maxLen; omega)).mono ?_
    rintro e w9 ⟨rfl, rfl⟩
    rw [HL.out]
    go_wp2
    go_ret2
    exact gaveCx_no HF.out (Below.refl _ _)
  obtain ⟨l1, l2⟩ : 1 ≤ (xs.length : Int) ∧ (xs.length : Int) ≤ 64 := of_decide_eq_true hl
  have HB0 : Hid (binB xs tu = finB .f32 tu) := Lib.hid (by unfold binB; rw [hl]; rfl)
  have HL := Lib.hid hl; clear hl
  rcases hf : finB .f32 tu with _ | _
  · skip
    have HF := Lib.hid (HB0.out.trans hf); have H_f := Lib.hid hf; clear hf
    go_enter Try.func41, Try.ntmps41
    go_wp2_with fail
    refine (specRecord _ _ _ _ (by unfold maxLen; omega)).mono ?_
    rintro e w9 ⟨rfl, rfl⟩
    rw [HL.out]
    go_wp2_with fail
    refine (specFinite _ _).mono ?_
    rintro r w1 ⟨rfl, nq, hw⟩
    have HB : Hid (Below w.heap.size w w1) := Lib.hid (by rw [hw]; exact below_drewN (Below.refl _ _) _)
    clear hw
    rw [H_f.out]
    go_wp2
    go_ret2
    exact gaveCx_no HF.out HB.out
  have HF := Lib.hid (HB0.out.trans hf); have H_f := Lib.hid hf; clear hf
  generalize hn : xs.length = n at *
  have HN := Lib.hid hn; clear hn
  go_enter Try.func41, Try.ntmps41
  go_wp2_with fail
  refine (specRecord _ _ _ _ (by unfold maxLen; omega)).mono ?_
  rintro e w9 ⟨rfl, rfl⟩
  rw [HL.out]
  go_wp2_with fail
  refine (specFinite _ _).mono ?_
  rintro r w1 ⟨rfl, nq, hw⟩
  have HB : Hid (Below w.heap.size w w1) := Lib.hid (by rw [hw]; exact below_drewN (Below.refl _ _) _)
  clear hw
  rw [H_f.out]
  have HZ : Hid (canon .f32 0 = (binS xs (canon .f32 tu) 0).1 ∧ canon .f32 0 = (binS xs (canon .f32 tu) 0).2) := Lib.hid ⟨rfl, rfl⟩
  go_wp2
  go_loopw [6, 7] (fun sv iv wr => ∃ k a9 b9 : Nat, k ≤ n ∧ iv = .int .i64 k ∧ sv = .complex .f32 a9 b9 ∧ canon .f32 a9 = (binS xs (canon .f32 tu) k).1 ∧ canon .f32 b9 = (binS xs (canon .f32 tu) k).2 ∧ a9 < 2 ^ 32 ∧ b9 < 2 ^ 32 ∧ Below w.heap.size w wr) (fun _ iv _ => n - (intOf iv).toNat)
  case atStart => exact ⟨0, 0, 0, Nat.zero_le _, rfl, rfl, HZ.out.1, HZ.out.2, by decide, by decide, HB.out⟩
  case round =>
    obtain ⟨k, a9, b9, hk, rfl, rfl, ha, hb, la, lb, hb5⟩ := hrel
    replace HB := Lib.hid hb5; have HA := Lib.hid ha; have HBB := Lib.hid hb; clear ha hb hb5 HZ
    by_cases hlt : k < n
    · skip
      obtain ⟨ba, oa, rfl, c0⟩ := row_cellN (hx.later HB.out) (show k < xs.length by rw [HN.out]; exact hlt)
      have hki : (k : Int) < (n : Int) := by omega
      have k0 : (0 : Int) ≤ (k : Int) := Int.natCast_nonneg k
      have HS : Hid (addCC (binS xs (canon .f32 tu) k) (termC (canon .f32 (xs.getD k 0)) k (canon .f32 tu)) = binS xs (canon .f32 tu) (k + 1)) := Lib.hid rfl
      generalize xs.getD k 0 = x at *
      go_wp2_with (first | (go_at_call 100; refine (specTerm _ _ _ _ ht).mono ?_; rintro e w2 ⟨ta, tb, rfl, hta, htb, lta, ltb, q_⟩; have HTA := Lib.hid hta; have HTB := Lib.hid htb; clear hta htb; replace HB := Lib.hid (HB.out.trans (q_.mono HB.out.size)); clear q_) | (refine wpList_cadd rfl _ _ _ _ rfl _ _ _ _ rfl rfl ?_; intro sa sb nn hsa hsb lsa lsb; have HSA := Lib.hid hsa; have HSB := Lib.hid hsb; clear hsa hsb; replace HB := Lib.hid (HB.out.trans ((show Below w2.heap.size w2 (w2.drewN nn) from below_drewN (Below.refl _ _) _).mono HB.out.size)); generalize w2.drewN nn = w3 at *))
      go_roundw
      case rel => exact ⟨k + 1, sa, sb, by omega, by go_num, rfl, by rw [HSA.out, HTA.out, HA.out]; exact congrArg Prod.fst HS.out, by rw [HSB.out, HTB.out, HBB.out]; exact congrArg Prod.snd HS.out, lsa, lsb, HB.out⟩
      case measure => simp [intOf]; omega
    · skip
      obtain rfl : k = n := by omega
      go_wp2
      go_ret2
      exact gaveCx_yes HF.out HA.out HBB.out la lb HB.out
end Go.Proofs.Ythihemfegjaenaa

end
