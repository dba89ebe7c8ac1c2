/- What goes through a column: the program's answer and the model's. Conditions: none beyond those of each theorem. -/
import Derived.Test.YthlkndjllhdppaaNear
import Derived.Test.YthlkndjllhdppaaBu14
import Derived.Test.YthlkndjllhdppaaBu7
namespace Go.Proofs.Ythlkndjllhdppaa
open Go Ieee Go.RowKit
set_option linter.unusedVariables false

/-- a sum over the cells that are meant, in order -/
def sumS (p : Nat → Bool) (G : Nat → Option Nat) : Nat → Option Nat
  | 0 => some 0
  | k + 1 => if p k then fop .add .f32 (sumS p G k) (G k) else sumS p G k

theorem sumS_yes {p : Nat → Bool} {G : Nat → Option Nat} {k : Nat} (h : p k = true) : sumS p G (k + 1) = fop .add .f32 (sumS p G k) (G k) := by rw [sumS, h]; rfl
theorem sumS_no {p : Nat → Bool} {G : Nat → Option Nat} {k : Nat} (h : p k = false) : sumS p G (k + 1) = sumS p G k := by rw [sumS, h]; rfl

def colP (wd u : Int) (i : Nat) : Bool := decide ((i : Int) % wd = u)
def fluxG (e y : List Nat) (i : Nat) : Option Nat := fop .mul .f32 (canon .f32 (e.getD i 0)) (canon .f32 (y.getD i 0))
/-- a sum row by row -/
def sumT (m c : Nat) (G : Nat → Option Nat) : Nat → Option Nat
  | 0 => some 0
  | j + 1 => fop .add .f32 (sumT m c G j) (G (c + m * j))

theorem sum_row {m c : Nat} {G : Nat → Option Nat} (hc : c < m) (j : Nat) (ih : sumS (colP m c) G (m * j) = sumT m c G j) : ∀ t, t ≤ m → sumS (colP m c) G (m * j + t) = if t ≤ c then sumT m c G j else sumT m c G (j + 1)
  | 0, _ => by rw [Nat.add_zero, ih, if_pos (Nat.zero_le _)]
  | t + 1, ht => by
    have h1 := sum_row hc j ih t (by omega)
    have hmod : ((m * j + t : Nat) : Int) % (m : Int) = (t : Int) := by
      rw [← Int.natCast_emod, Nat.mul_add_mod, Nat.mod_eq_of_lt (by omega)]
    rw [← Nat.add_assoc]
    rcases Nat.lt_trichotomy t c with h | h | h
    · rw [sumS_no (by unfold colP; rw [hmod]; exact decide_eq_false (by omega)), h1, if_pos (by omega), if_pos (by omega)]
    · rw [sumS_yes (by unfold colP; rw [hmod]; exact decide_eq_true (by omega)), h1, if_pos (by omega), if_neg (by omega), sumT, h, Nat.add_comm c (m * j)]
    · rw [sumS_no (by unfold colP; rw [hmod]; exact decide_eq_false (by omega)), h1, if_neg (by omega), if_neg (by omega)]

theorem sum_cols {m c : Nat} {G : Nat → Option Nat} (hc : c < m) : ∀ j, sumS (colP m c) G (m * j) = sumT m c G j
  | 0 => by rw [Nat.mul_zero]; rfl
  | j + 1 => by
    have := sum_row (G := G) hc j (sum_cols hc j) m (Nat.le_refl _)
    rw [if_neg (by omega)] at this
    rw [Nat.mul_succ]; exact this

def fluxB (wd hi : Int) (wb : Bool) (xs ys e x y : List Nat) (u : Int) : Bool := fieldB wd hi wb xs ys e x y && decide (0 ≤ u ∧ u < wd)
def ifS (b : Bool) (S : Option Nat) : Option Nat := if b then S else some 0
def GaveN (w : World) (b : Bool) (S : Option Nat) (r : Ending) (w' : World) : Prop := ∃ z, r = .returned (.tuple #[.float .f32 z, .bool b]) ∧ canon .f32 z = ifS b S ∧ z < 2 ^ 32 ∧ Below w.heap.size w w'
theorem gaveN_no {w : World} {b : Bool} {S : Option Nat} {r : Ending} {w' : World} (hb : b = false) (h : GaveN w false S r w') : GaveN w b S r w' := by subst hb; exact h

theorem implHasCol (wd hi y : Int) (wb : Bool) (w : World) : Calls Try.prog 102 #[.agg #[.int .i64 wd, .int .i64 hi, .bool wb], .int .i64 y] w fun e w' => e = .returned (.bool (decide (0 ≤ y ∧ y < wd))) ∧ Below w.heap.size w w' := by
  have HB : Hid (Below w.heap.size w (w.alloc (.cells #[.int .i64 wd, .int .i64 hi, .bool wb] 82))) := Lib.hid (below_new _ _)
  by_cases h1 : 0 ≤ y
  · have d1 : decide (0 ≤ y) = true := decide_eq_true h1
    rw [show decide (0 ≤ y ∧ y < wd) = decide (y < wd) by rw [decide_eq_decide]; omega]
    go_enter Try.func102, Try.ntmps102
    go_wp2
    go_ret
    exact ⟨rfl, HB.out⟩
  · have d1 : decide (0 ≤ y) = false := decide_eq_false h1
    rw [show decide (0 ≤ y ∧ y < wd) = false by rw [decide_eq_false]; omega]
    go_enter Try.func102, Try.ntmps102
    go_wp2
    go_ret
    exact ⟨rfl, HB.out⟩

theorem implFlux1 (gx : Nat) (u x y : Int) (w : World) (V : Blk w gx #[.int .i64 u] 2) : Calls Try.prog 107 #[.agg #[.int .i64 x, .int .i64 y], .pointer (some ⟨gx, 0, none⟩)] w fun e w' => e = .returned (.bool (decide (x = u))) ∧ Below w.heap.size w w' := by
  have V1 := V.alloc (.cells #[.int .i64 x, .int .i64 y] 85)
  have HB : Hid (Below w.heap.size w (w.alloc (.cells #[.int .i64 x, .int .i64 y] 85))) := Lib.hid (below_new _ _)
  have hr : (x == u) = decide (x = u) := by by_cases h : x = u <;> simp [h]
  have HR := Lib.hid hr; clear hr
  obtain ⟨Vc, Vf⟩ := V1.open
  go_enter Try.func107, Try.ntmps107
  go_wp2
  go_ret
  exact ⟨by rw [← HR.out]; rfl, HB.out⟩

theorem implFlux (e x y : Nat) (w : World) : Calls Try.prog 108 #[.agg #[.float .f32 e, .float .f32 x, .float .f32 y]] w fun r w' => ∃ v, r = .returned (.float .f32 v) ∧ canon .f32 v = fop .mul .f32 (canon .f32 e) (canon .f32 y) ∧ v < 2 ^ 32 ∧ Below w.heap.size w w' := by
  have HB : Hid (Below w.heap.size w (w.alloc (.cells #[.float .f32 e, .float .f32 x, .float .f32 y] 123))) := Lib.hid (below_new _ _)
  go_enter Try.func108, Try.ntmps108
  go_wp2_with fail
  refine (mulB e y _).mono ?_
  rintro r w2 ⟨v, rfl, hc, hv, q⟩
  have HC := Lib.hid hc; clear hc
  go_wp2
  go_ret
  exact ⟨v, rfl, HC.out, hv, HB.out.trans (q.mono HB.out.size)⟩

set_option maxHeartbeats 8000000 in
set_option maxRecDepth 100000 in
theorem implSumFlux (wd hi : Int) (wb : Bool) (b0 b1 b2 o0 o1 o2 c0 c1 c2 n : Nat) (e x y : List Nat) (fm : FuncId) (r1 k1 : Array Value) (p : Nat → Bool) (w : World) (h0 : RowV w (some ⟨b0, o0, none⟩) (fvals e)) (h1 : RowV w (some ⟨b1, o1, none⟩) (fvals x)) (h2 : RowV w (some ⟨b2, o2, none⟩) (fvals y)) (l0 : e.length = n) (l1 : x.length = n) (l2 : y.length = n) (s1 : 3 ≤ wd) (s2 : wd ≤ 16) (n256 : n ≤ 256) (gM : IsGo fm)
    (hM : ∀ i : Nat, i < n → ∀ w', Below w.heap.size w w' → Calls Try.prog fm (r1 ++ #[.agg #[.int .i64 ((i : Int) % wd), .int .i64 ((i : Int) / wd)]] ++ k1) w' fun e w'' => e = .returned (.bool (p i)) ∧ Below w'.heap.size w' w'') :
    Calls Try.prog 106 #[.agg #[.int .i64 wd, .int .i64 hi, .bool wb], .agg #[.slice (some ⟨b0, o0, none⟩) n c0, .slice (some ⟨b1, o1, none⟩) n c1, .slice (some ⟨b2, o2, none⟩) n c2], .func (.func fm) r1 k1, .func (.func 108) #[] #[]] w fun r w' => ∃ v, r = .returned (.float .f32 v) ∧ canon .f32 v = sumS p (fluxG e y) n ∧ v < 2 ^ 32 ∧ Below w.heap.size w w' := by
  have L0 := Lib.hid l0; have L1 := Lib.hid l1; have L2 := Lib.hid l2; have HM := Lib.hid hM; clear l0 l1 l2 hM
  have aslc : ∀ w, (isAgg 22).run Try.prog w = .ok false w := fun w => by kernel_rfl
  have af32 : ∀ w, (isAgg 45).run Try.prog w = .ok false w := fun w => by kernel_rfl
  have X := Blk.new w #[.int .i64 wd, .int .i64 hi, .bool wb] 82
  have Y := Blk.new1 w (.cells #[.int .i64 wd, .int .i64 hi, .bool wb] 82) #[.slice (some ⟨b0, o0, none⟩) n c0, .slice (some ⟨b1, o1, none⟩) n c1, .slice (some ⟨b2, o2, none⟩) n c2] 52
  replace X := X.alloc (.cells #[.slice (some ⟨b0, o0, none⟩) n c0, .slice (some ⟨b1, o1, none⟩) n c1, .slice (some ⟨b2, o2, none⟩) n c2] 52)
  have HB : Hid (Below w.heap.size w ((w.alloc (.cells #[.int .i64 wd, .int .i64 hi, .bool wb] 82)).alloc (.cells #[.slice (some ⟨b0, o0, none⟩) n c0, .slice (some ⟨b1, o1, none⟩) n c1, .slice (some ⟨b2, o2, none⟩) n c2] 52))) := Lib.hid (((Below.refl w.heap.size w).alloc (by simp <;> omega) _).alloc (by simp <;> omega) _)
  go_enter Try.func106, Try.ntmps106
  go_upto_region 1 with (fail)
  generalize ((w.alloc (.cells #[.int .i64 wd, .int .i64 hi, .bool wb] 82)).alloc (.cells #[.slice (some ⟨b0, o0, none⟩) n c0, .slice (some ⟨b1, o1, none⟩) n c1, .slice (some ⟨b2, o2, none⟩) n c2] 52)) = u1 at *
  obtain ⟨Yc, Yf⟩ := Y.open
  go_wp2
  clear Yc Yf
  go_loopw [15, 9] (fun iv sv wr => ∃ (k s : Nat), k ≤ n ∧ iv = .int .i64 k ∧ sv = .float .f32 s ∧ canon .f32 s = sumS p (fluxG e y) k ∧ s < 2 ^ 32 ∧ Blk wr w.heap.size #[.int .i64 wd, .int .i64 hi, .bool wb] 82 ∧ Blk wr (w.heap.size + 1) #[.slice (some ⟨b0, o0, none⟩) n c0, .slice (some ⟨b1, o1, none⟩) n c1, .slice (some ⟨b2, o2, none⟩) n c2] 52 ∧ Below w.heap.size w wr) (fun iv _ _ => n - (intOf iv).toNat)
  case atStart => exact ⟨0, 0, Nat.zero_le _, rfl, rfl, canon_zero .f32, by decide, X, Y, HB.out⟩
  case round =>
    obtain ⟨k, s, hk, rfl, rfl, hs, hsl, X, Y, hb⟩ := hrel
    replace HB := Lib.hid hb; have HS := Lib.hid hs; clear hb hs
    by_cases hlt : k < n
    · skip
      have hki : (k : Int) < (n : Int) := by omega
      have l0 := L0.out; have l1 := L1.out; have l2 := L2.out
      obtain ⟨_, _, e9, f0⟩ := h0.later HB.out k _ (fvals_get (show k < e.length by omega)); cases e9
      obtain ⟨_, _, e9, f1⟩ := h1.later HB.out k _ (fvals_get (show k < x.length by omega)); cases e9
      obtain ⟨_, _, e9, f2⟩ := h2.later HB.out k _ (fvals_get (show k < y.length by omega)); cases e9
      have HGK : Hid (fluxG e y k = fop .mul .f32 (canon .f32 e[k]) (canon .f32 y[k])) := Lib.hid (by unfold fluxG; rw [getD_get (show k < e.length by omega), getD_get (show k < y.length by omega)])
      generalize e[k] = v0 at *
      generalize x[k] = v1 at *
      generalize y[k] = v2 at *
      clear l0 l1 l2
      obtain ⟨Xc, Xf⟩ := X.open
      rcases hf : p k with _ | _
      · skip
        have H_f := Lib.hid hf
        have HN := Lib.hid (sumS_no (G := fluxG e y) hf); clear hf
        go_wp2_with fail
        refine (implCellAt _ _ _ _ _ s1 s2 (by omega) (by omega)).mono ?_
        rintro e9 u2 ⟨rfl, q⟩
        replace f0 := cell_on f0 q
        replace f1 := cell_on f1 q
        replace f2 := cell_on f2 q
        replace X := X.later q; replace Y := Y.later q; replace HB := Lib.hid (HB.out.trans (q.mono HB.out.size)); clear q Xc Xf
        go_wp2_with (refine wpList_callV fm r1 k1 rfl gM [.agg #[.int .i64 ((k : Int) % wd), .int .i64 ((k : Int) / wd)]] rfl _ (HM.out k hlt _ HB.out) ?_; rintro e9 u3 ⟨rfl, q⟩; refine ⟨_, rfl, ?_⟩; rw [H_f.out]; simp only [Act.put, List.setIfInBounds_toArray, List.set_cons_zero, List.set_cons_succ])
        go_roundw
        case rel => exact ⟨k + 1, s, by omega, by go_num, rfl, by rw [HN.out]; exact HS.out, hsl, X.later q, Y.later q, HB.out.trans (q.mono HB.out.size)⟩
        case measure => simp [intOf]; omega
      · skip
        have H_f := Lib.hid hf
        have HN := Lib.hid (sumS_yes (G := fluxG e y) hf); clear hf
        go_wp2_with fail
        refine (implCellAt _ _ _ _ _ s1 s2 (by omega) (by omega)).mono ?_
        rintro e9 u2 ⟨rfl, q⟩
        replace f0 := cell_on f0 q
        replace f1 := cell_on f1 q
        replace f2 := cell_on f2 q
        replace X := X.later q; replace Y := Y.later q; replace HB := Lib.hid (HB.out.trans (q.mono HB.out.size)); clear q Xc Xf
        go_upto_region 6 with (refine wpList_callV fm r1 k1 rfl gM [.agg #[.int .i64 ((k : Int) % wd), .int .i64 ((k : Int) / wd)]] rfl _ (HM.out k hlt _ HB.out) ?_; rintro e9 u3 ⟨rfl, q⟩; refine ⟨_, rfl, ?_⟩; rw [H_f.out]; simp only [Act.put, List.setIfInBounds_toArray, List.set_cons_zero, List.set_cons_succ])
        replace f0 := cell_on f0 q
        replace f1 := cell_on f1 q
        replace f2 := cell_on f2 q
        replace X := X.later q; replace Y := Y.later q; replace HB := Lib.hid (HB.out.trans (q.mono HB.out.size)); clear q
        obtain ⟨Yc, Yf⟩ := Y.open
        refine wp_region_relC (Grows u3) (fun _ _ v => ∃ z, v = .float .f32 z ∧ canon .f32 z = fop .mul .f32 (canon .f32 v0) (canon .f32 v2) ∧ z < 2 ^ 32) (by kernel_rfl) (by kernel_rfl) (Grows.drew _) ?_
        (refine wpRel_plain rfl rfl ?_; intro K hK; go_big_quiet_op; (first | go_big_quiet_on | (refine ⟨_, fun _ _ => rfl, ?_⟩; go_big_quiet_on)))
        (refine wpRel_plain rfl rfl ?_; intro K hK; go_big_quiet_op; (first | go_big_quiet_on | (refine ⟨_, fun _ _ => rfl, ?_⟩; go_big_quiet_on)))
        (refine wpRel_plain rfl rfl ?_; intro K hK; go_big_quiet_op; (first | go_big_quiet_on | (refine ⟨_, fun _ _ => rfl, ?_⟩; go_big_quiet_on)))
        (refine wpRel_plain rfl rfl ?_; intro K hK; go_big_quiet_op; (first | go_big_quiet_on | (refine ⟨_, fun _ _ => rfl, ?_⟩; go_big_quiet_on)))
        (refine wpRel_load rfl (⟨w.heap.size + 1, 1, none⟩) (by kernel_rfl) (.slice (some ⟨b1, o1, none⟩) n c1) (load_cell aslc (Yc 1)) ?_; simp only [Act.put, List.setIfInBounds_toArray, List.set_cons_zero, List.set_cons_succ])
        (refine wpRel_plain rfl rfl ?_; intro K hK; go_big_quiet_op; (first | go_big_quiet_on | (refine ⟨_, fun _ _ => rfl, ?_⟩; go_big_quiet_on)))
        (refine wpRel_plain rfl rfl ?_; intro K hK; go_big_quiet_op; (first | go_big_quiet_on | (refine ⟨_, fun _ _ => rfl, ?_⟩; go_big_quiet_on)))
        (refine wpRel_load rfl (⟨b1, o1 + k, none⟩) (by kernel_rfl) (.float .f32 v1) (load_cell af32 f1) ?_; simp only [Act.put, List.setIfInBounds_toArray, List.set_cons_zero, List.set_cons_succ])
        (refine wpRel_plain rfl rfl ?_; intro K hK; go_big_quiet_op; (first | go_big_quiet_on | (refine ⟨_, fun _ _ => rfl, ?_⟩; go_big_quiet_on)))
        (refine wpRel_load rfl (⟨w.heap.size + 1, 2, none⟩) (by kernel_rfl) (.slice (some ⟨b2, o2, none⟩) n c2) (load_cell aslc (Yc 2)) ?_; simp only [Act.put, List.setIfInBounds_toArray, List.set_cons_zero, List.set_cons_succ])
        (refine wpRel_plain rfl rfl ?_; intro K hK; go_big_quiet_op; (first | go_big_quiet_on | (refine ⟨_, fun _ _ => rfl, ?_⟩; go_big_quiet_on)))
        (refine wpRel_plain rfl rfl ?_; intro K hK; go_big_quiet_op; (first | go_big_quiet_on | (refine ⟨_, fun _ _ => rfl, ?_⟩; go_big_quiet_on)))
        (refine wpRel_load rfl (⟨b2, o2 + k, none⟩) (by kernel_rfl) (.float .f32 v2) (load_cell af32 f2) ?_; simp only [Act.put, List.setIfInBounds_toArray, List.set_cons_zero, List.set_cons_succ])
        (refine wpRel_build rfl #[.float .f32 v0, .float .f32 v1, .float .f32 v2] (by kernel_rfl) ?_; simp only [Act.put, List.setIfInBounds_toArray, List.set_cons_zero, List.set_cons_succ])
        (refine wpRel_callC rfl 108 _ (by kernel_rfl) Try.func108 (by kernel_rfl) (by kernel_rfl) [.agg #[.float .f32 v0, .float .f32 v1, .float .f32 v2]] (by kernel_rfl) (fun w' hw' => (implFlux v0 v1 v2 w').mono (by rintro e w'' ⟨z, rfl, hz, hzl, q9⟩; exact ⟨_, rfl, ⟨z, rfl, hz, hzl⟩, hw'.next q9⟩)) ?_; intro v hv; obtain ⟨z, rfl, hz, hzl⟩ := hv; have HZ := Lib.hid hz; clear hz; simp only [Act.put, List.setIfInBounds_toArray, List.set_cons_zero, List.set_cons_succ])
        (refine wpRel_arithC rfl rfl (fun _ n h => Grows.drewN n h) .f32 (s) (z) (by kernel_rfl) (by kernel_rfl) ?_; intro t9 hc_t9 hb_t9; have H_t9 := Lib.hid hc_t9; clear hc_t9; replace hb_t9 : t9 < 2 ^ 32 := hb_t9; simp only [Act.put, List.setIfInBounds_toArray, List.set_cons_zero, List.set_cons_succ])
        (refine wpRel_plain rfl rfl ?_; intro K hK; go_big_quiet_op; (first | go_big_quiet_on | (refine ⟨_, fun _ _ => rfl, ?_⟩; go_big_quiet_on)))
        refine wpRel_nil ?_
        intro u4 hw'
        replace hw' : Below u3.heap.size u3 u4 := hw'
        replace X := X.later hw'; replace Y := Y.later hw'; replace HB := Lib.hid (HB.out.trans (hw'.mono HB.out.size)); clear hw' Yc Yf f0 f1 f2
        have HV : Hid (canon .f32 t9 = sumS p (fluxG e y) (k + 1)) := Lib.hid (by rw [HN.out, H_t9.out, HS.out, HZ.out, HGK.out])
        go_wp2
        go_roundw
        case rel => exact ⟨k + 1, t9, by omega, by go_num, rfl, HV.out, hb_t9, X, Y, HB.out⟩
        case measure => simp [intOf]; omega
    · skip
      obtain rfl : k = n := by omega
      go_wp2
      go_ret
      exact ⟨s, rfl, HS.out, hsl, HB.out⟩

set_option maxHeartbeats 8000000 in
set_option maxRecDepth 100000 in
theorem implFluxThroughL (wd hi : Int) (wb : Bool) (a b : Option Addr) (ca cb : Nat) (xs ys : List Nat) (a0 a1 a2 : Option Addr) (c0 c1 c2 : Nat) (e x y : List Nat) (u : Int) (w : World) (ha : RowV w a (fvals xs)) (hb : RowV w b (fvals ys)) (qa : ∀ z ∈ xs, z < 2 ^ 32) (qb : ∀ z ∈ ys, z < 2 ^ 32) (hx : xs.length ≤ maxLen) (hy : ys.length ≤ maxLen) (h0 : RowV w a0 (fvals e)) (h1 : RowV w a1 (fvals x)) (h2 : RowV w a2 (fvals y)) (q0 : ∀ z ∈ e, z < 2 ^ 32) (q1 : ∀ z ∈ x, z < 2 ^ 32) (q2 : ∀ z ∈ y, z < 2 ^ 32) (m0 : e.length ≤ maxLen) (m1 : x.length ≤ maxLen) (m2 : y.length ≤ maxLen) (w1 : (Lit.int .i64 u).wf = true) :
    Calls Try.prog 49 #[.agg #[.int .i64 wd, .int .i64 hi, .bool wb, .slice a xs.length ca, .slice b ys.length cb], .agg #[.slice a0 e.length c0, .slice a1 x.length c1, .slice a2 y.length c2], .int .i64 u] w (GaveN w (fluxB wd hi wb xs ys e x y u) (sumS (colP wd u) (fluxG e y) (wd * hi).toNat)) := by
  rcases hfv : fieldB wd hi wb xs ys e x y with _ | _
  · skip
    refine Calls.mono ?_ (fun e w9 h9 => gaveN_no (by unfold fluxB; rw [hfv]; rfl) h9)
    have H_fb := Lib.hid hfv; clear hfv
    have X := Blk.new w #[.int .i64 wd, .int .i64 hi, .bool wb, .slice a xs.length ca, .slice b ys.length cb] 29
    have Y := Blk.new1 w (.cells #[.int .i64 wd, .int .i64 hi, .bool wb, .slice a xs.length ca, .slice b ys.length cb] 29) #[.slice a0 e.length c0, .slice a1 x.length c1, .slice a2 y.length c2] 52
    replace X := X.alloc (.cells #[.slice a0 e.length c0, .slice a1 x.length c1, .slice a2 y.length c2] 52)
    have V := Blk.new2 w (.cells #[.int .i64 wd, .int .i64 hi, .bool wb, .slice a xs.length ca, .slice b ys.length cb] 29) (.cells #[.slice a0 e.length c0, .slice a1 x.length c1, .slice a2 y.length c2] 52) #[.int .i64 u] 2
    replace X := X.alloc (.cells #[.int .i64 u] 2)
    replace Y := Y.alloc (.cells #[.int .i64 u] 2)
    have HB : Hid (Below w.heap.size w (((w.alloc (.cells #[.int .i64 wd, .int .i64 hi, .bool wb, .slice a xs.length ca, .slice b ys.length cb] 29)).alloc (.cells #[.slice a0 e.length c0, .slice a1 x.length c1, .slice a2 y.length c2] 52)).alloc (.cells #[.int .i64 u] 2))) := Lib.hid ((((Below.refl w.heap.size w).alloc (by simp <;> omega) _).alloc (by simp <;> omega) _).alloc (by simp <;> omega) _)
    go_enter Try.func49, Try.ntmps49
    go_wp2_with fail
    generalize (((w.alloc (.cells #[.int .i64 wd, .int .i64 hi, .bool wb, .slice a xs.length ca, .slice b ys.length cb] 29)).alloc (.cells #[.slice a0 e.length c0, .slice a1 x.length c1, .slice a2 y.length c2] 52)).alloc (.cells #[.int .i64 u] 2)) = u1 at *
    obtain ⟨Xc, Xf⟩ := X.open
    refine (implShapeOf _ _ _ _ _ _ _ _ _ _).mono ?_
    rintro r u2 ⟨rfl, q⟩
    clear Xc Xf
    replace X := X.later q
    replace Y := Y.later q
    replace V := V.later q
    replace HB := Lib.hid (HB.out.trans (q.mono HB.out.size))
    clear q
    have H := Blk.new u2 #[.int .i64 wd, .int .i64 hi, .bool wb] 82
    have q := below_new u2 (.cells #[.int .i64 wd, .int .i64 hi, .bool wb] 82)
    replace X := X.later q
    replace Y := Y.later q
    replace V := V.later q
    replace HB := Lib.hid (HB.out.trans (q.mono HB.out.size))
    clear q
    obtain ⟨Xc, Xf⟩ := X.open
    obtain ⟨Yc, Yf⟩ := Y.open
    go_wp2_with fail
    generalize (u2.alloc (.cells #[.int .i64 wd, .int .i64 hi, .bool wb] 82)) = u3 at *
    refine (implIsField _ _ _ _ _ _ _ _ _ _ _ _ _ _ _ _ _ _ _ (ha.later HB.out) (hb.later HB.out) hx hy (h0.later HB.out) (h1.later HB.out) (h2.later HB.out) m0 m1 m2).mono ?_
    rintro r u4 ⟨rfl, q⟩
    clear Xc Xf
    clear Yc Yf
    replace X := X.later q
    replace Y := Y.later q
    replace V := V.later q
    replace H := H.later q
    replace HB := Lib.hid (HB.out.trans (q.mono HB.out.size))
    clear q
    rw [H_fb.out]
    go_wp2
    go_ret2
    exact ⟨0, rfl, canon_zero .f32, by decide, HB.out⟩
  have HB0 : Hid (fluxB wd hi wb xs ys e x y u = decide (0 ≤ u ∧ u < wd)) := Lib.hid (by unfold fluxB; rw [hfv]; rfl)
  obtain ⟨p1, _, l0, l1, l2⟩ := field_parts hfv
  obtain ⟨s1, s2, s3, s4, hm2, lx, ly⟩ := valid_parts p1
  obtain ⟨t1, t2⟩ := (sides_mul (valid_sides p1)).2.2.2.2
  obtain ⟨n, hn⟩ := Int.eq_ofNat_of_zero_le (show 0 ≤ wd * hi by omega)
  have E0 : e.length = n := by omega
  have E1 : x.length = n := by omega
  have E2 : y.length = n := by omega
  have n256 : n ≤ 256 := by omega
  have n0 : 0 < n := by omega
  obtain ⟨b0, o0, rfl, hz0⟩ := h0 0 _ (fvals_get (show 0 < e.length by omega)); clear hz0
  obtain ⟨b1, o1, rfl, hz1⟩ := h1 0 _ (fvals_get (show 0 < x.length by omega)); clear hz1
  obtain ⟨b2, o2, rfl, hz2⟩ := h2 0 _ (fvals_get (show 0 < y.length by omega)); clear hz2
  have CV : ∀ u, Below w.heap.size w u → Calls Try.prog 90 #[.agg #[.int .i64 wd, .int .i64 hi, .bool wb, .slice a xs.length ca, .slice b ys.length cb], .agg #[.slice (some ⟨b0, o0, none⟩) n c0, .slice (some ⟨b1, o1, none⟩) n c1, .slice (some ⟨b2, o2, none⟩) n c2]] u fun e w' => e = .returned (.bool true) ∧ Below u.heap.size u w' := fun u hu => by
    have := implIsField wd hi wb a b ca cb xs ys (some ⟨b0, o0, none⟩) (some ⟨b1, o1, none⟩) (some ⟨b2, o2, none⟩) c0 c1 c2 e x y u (ha.later hu) (hb.later hu) hx hy (h0.later hu) (h1.later hu) (h2.later hu) m0 m1 m2
    rw [E0, E1, E2, hfv] at this; exact this
  have HCV := Lib.hid CV; clear CV
  rw [E0, E1, E2]
  have HN := Lib.hid hn; have L0 := Lib.hid E0; have L1 := Lib.hid E1; have L2 := Lib.hid E2; clear hn E0 E1 E2 l0 l1 l2 lx ly t1 t2
  clear p1 hfv
  rcases hwi : decide (0 ≤ u ∧ u < wd) with _ | _
  · skip
    refine Calls.mono ?_ (fun e w9 h9 => gaveN_no (by rw [HB0.out, hwi]) h9)
    have HW := Lib.hid hwi; clear hwi
    have X := Blk.new w #[.int .i64 wd, .int .i64 hi, .bool wb, .slice a xs.length ca, .slice b ys.length cb] 29
    have Y := Blk.new1 w (.cells #[.int .i64 wd, .int .i64 hi, .bool wb, .slice a xs.length ca, .slice b ys.length cb] 29) #[.slice (some ⟨b0, o0, none⟩) n c0, .slice (some ⟨b1, o1, none⟩) n c1, .slice (some ⟨b2, o2, none⟩) n c2] 52
    replace X := X.alloc (.cells #[.slice (some ⟨b0, o0, none⟩) n c0, .slice (some ⟨b1, o1, none⟩) n c1, .slice (some ⟨b2, o2, none⟩) n c2] 52)
    have V := Blk.new2 w (.cells #[.int .i64 wd, .int .i64 hi, .bool wb, .slice a xs.length ca, .slice b ys.length cb] 29) (.cells #[.slice (some ⟨b0, o0, none⟩) n c0, .slice (some ⟨b1, o1, none⟩) n c1, .slice (some ⟨b2, o2, none⟩) n c2] 52) #[.int .i64 u] 2
    replace X := X.alloc (.cells #[.int .i64 u] 2)
    replace Y := Y.alloc (.cells #[.int .i64 u] 2)
    have HB : Hid (Below w.heap.size w (((w.alloc (.cells #[.int .i64 wd, .int .i64 hi, .bool wb, .slice a xs.length ca, .slice b ys.length cb] 29)).alloc (.cells #[.slice (some ⟨b0, o0, none⟩) n c0, .slice (some ⟨b1, o1, none⟩) n c1, .slice (some ⟨b2, o2, none⟩) n c2] 52)).alloc (.cells #[.int .i64 u] 2))) := Lib.hid ((((Below.refl w.heap.size w).alloc (by simp <;> omega) _).alloc (by simp <;> omega) _).alloc (by simp <;> omega) _)
    go_enter Try.func49, Try.ntmps49
    go_wp2_with fail
    generalize (((w.alloc (.cells #[.int .i64 wd, .int .i64 hi, .bool wb, .slice a xs.length ca, .slice b ys.length cb] 29)).alloc (.cells #[.slice (some ⟨b0, o0, none⟩) n c0, .slice (some ⟨b1, o1, none⟩) n c1, .slice (some ⟨b2, o2, none⟩) n c2] 52)).alloc (.cells #[.int .i64 u] 2)) = u1 at *
    obtain ⟨Xc, Xf⟩ := X.open
    refine (implShapeOf _ _ _ _ _ _ _ _ _ _).mono ?_
    rintro r u2 ⟨rfl, q⟩
    clear Xc Xf
    replace X := X.later q
    replace Y := Y.later q
    replace V := V.later q
    replace HB := Lib.hid (HB.out.trans (q.mono HB.out.size))
    clear q
    have H := Blk.new u2 #[.int .i64 wd, .int .i64 hi, .bool wb] 82
    have q := below_new u2 (.cells #[.int .i64 wd, .int .i64 hi, .bool wb] 82)
    replace X := X.later q
    replace Y := Y.later q
    replace V := V.later q
    replace HB := Lib.hid (HB.out.trans (q.mono HB.out.size))
    clear q
    obtain ⟨Xc, Xf⟩ := X.open
    obtain ⟨Yc, Yf⟩ := Y.open
    go_wp2_with fail
    generalize (u2.alloc (.cells #[.int .i64 wd, .int .i64 hi, .bool wb] 82)) = u3 at *
    refine (HCV.out _ HB.out).mono ?_
    rintro r u4 ⟨rfl, q⟩
    clear Xc Xf
    clear Yc Yf
    replace X := X.later q
    replace Y := Y.later q
    replace V := V.later q
    replace H := H.later q
    replace HB := Lib.hid (HB.out.trans (q.mono HB.out.size))
    clear q
    obtain ⟨Hc, Hf⟩ := H.open
    obtain ⟨Vc, Vf⟩ := V.open
    go_wp2_with fail
    refine (implHasCol _ _ _ _ _).mono ?_
    rintro r u5 ⟨rfl, q⟩
    clear Hc Hf
    clear Vc Vf
    replace X := X.later q
    replace Y := Y.later q
    replace V := V.later q
    replace H := H.later q
    replace HB := Lib.hid (HB.out.trans (q.mono HB.out.size))
    clear q
    rw [HW.out]
    go_wp2
    go_ret2
    exact ⟨0, rfl, canon_zero .f32, by decide, HB.out⟩
  have HBT : Hid (fluxB wd hi wb xs ys e x y u = true) := Lib.hid (by rw [HB0.out, hwi])
  have HW := Lib.hid hwi; clear hwi
  rw [show (wd * hi).toNat = n by rw [HN.out]; rfl]
  have X := Blk.new w #[.int .i64 wd, .int .i64 hi, .bool wb, .slice a xs.length ca, .slice b ys.length cb] 29
  have Y := Blk.new1 w (.cells #[.int .i64 wd, .int .i64 hi, .bool wb, .slice a xs.length ca, .slice b ys.length cb] 29) #[.slice (some ⟨b0, o0, none⟩) n c0, .slice (some ⟨b1, o1, none⟩) n c1, .slice (some ⟨b2, o2, none⟩) n c2] 52
  replace X := X.alloc (.cells #[.slice (some ⟨b0, o0, none⟩) n c0, .slice (some ⟨b1, o1, none⟩) n c1, .slice (some ⟨b2, o2, none⟩) n c2] 52)
  have V := Blk.new2 w (.cells #[.int .i64 wd, .int .i64 hi, .bool wb, .slice a xs.length ca, .slice b ys.length cb] 29) (.cells #[.slice (some ⟨b0, o0, none⟩) n c0, .slice (some ⟨b1, o1, none⟩) n c1, .slice (some ⟨b2, o2, none⟩) n c2] 52) #[.int .i64 u] 2
  replace X := X.alloc (.cells #[.int .i64 u] 2)
  replace Y := Y.alloc (.cells #[.int .i64 u] 2)
  have HB : Hid (Below w.heap.size w (((w.alloc (.cells #[.int .i64 wd, .int .i64 hi, .bool wb, .slice a xs.length ca, .slice b ys.length cb] 29)).alloc (.cells #[.slice (some ⟨b0, o0, none⟩) n c0, .slice (some ⟨b1, o1, none⟩) n c1, .slice (some ⟨b2, o2, none⟩) n c2] 52)).alloc (.cells #[.int .i64 u] 2))) := Lib.hid ((((Below.refl w.heap.size w).alloc (by simp <;> omega) _).alloc (by simp <;> omega) _).alloc (by simp <;> omega) _)
  go_enter Try.func49, Try.ntmps49
  go_wp2_with fail
  generalize (((w.alloc (.cells #[.int .i64 wd, .int .i64 hi, .bool wb, .slice a xs.length ca, .slice b ys.length cb] 29)).alloc (.cells #[.slice (some ⟨b0, o0, none⟩) n c0, .slice (some ⟨b1, o1, none⟩) n c1, .slice (some ⟨b2, o2, none⟩) n c2] 52)).alloc (.cells #[.int .i64 u] 2)) = u1 at *
  obtain ⟨Xc, Xf⟩ := X.open
  refine (implShapeOf _ _ _ _ _ _ _ _ _ _).mono ?_
  rintro r u2 ⟨rfl, q⟩
  clear Xc Xf
  replace X := X.later q
  replace Y := Y.later q
  replace V := V.later q
  replace HB := Lib.hid (HB.out.trans (q.mono HB.out.size))
  clear q
  have H := Blk.new u2 #[.int .i64 wd, .int .i64 hi, .bool wb] 82
  have q := below_new u2 (.cells #[.int .i64 wd, .int .i64 hi, .bool wb] 82)
  replace X := X.later q
  replace Y := Y.later q
  replace V := V.later q
  replace HB := Lib.hid (HB.out.trans (q.mono HB.out.size))
  clear q
  obtain ⟨Xc, Xf⟩ := X.open
  obtain ⟨Yc, Yf⟩ := Y.open
  go_wp2_with fail
  generalize (u2.alloc (.cells #[.int .i64 wd, .int .i64 hi, .bool wb] 82)) = u3 at *
  refine (HCV.out _ HB.out).mono ?_
  rintro r u4 ⟨rfl, q⟩
  clear Xc Xf
  clear Yc Yf
  replace X := X.later q
  replace Y := Y.later q
  replace V := V.later q
  replace H := H.later q
  replace HB := Lib.hid (HB.out.trans (q.mono HB.out.size))
  clear q
  obtain ⟨Hc, Hf⟩ := H.open
  obtain ⟨Vc, Vf⟩ := V.open
  go_wp2_with fail
  refine (implHasCol _ _ _ _ _).mono ?_
  rintro r u5 ⟨rfl, q⟩
  clear Hc Hf
  clear Vc Vf
  replace X := X.later q
  replace Y := Y.later q
  replace V := V.later q
  replace H := H.later q
  replace HB := Lib.hid (HB.out.trans (q.mono HB.out.size))
  clear q
  rw [HW.out]
  obtain ⟨Hc, Hf⟩ := H.open
  obtain ⟨Yc, Yf⟩ := Y.open
  go_wp2_with fail
  have HV := Lib.hid V; have HBC := HB
  refine (implSumFlux wd hi wb b0 b1 b2 o0 o1 o2 c0 c1 c2 n e x y 107 #[] #[.pointer (some ⟨w.heap.size + 1 + 1, 0, none⟩)] (colP wd u) _ (h0.later HB.out) (h1.later HB.out) (h2.later HB.out) L0.out L1.out L2.out s1 s2 n256 (by exact ⟨_, rfl, by kernel_rfl, by kernel_rfl⟩) (fun i _ w' hw' => implFlux1 _ u ((i : Int) % wd) ((i : Int) / wd) w' (HV.out.later hw'))).mono ?_
  rintro r u6 ⟨v, rfl, hv, hvl, q⟩
  have HVV := Lib.hid hv; clear hv HV HBC
  clear Hc Hf
  clear Yc Yf
  replace X := X.later q
  replace Y := Y.later q
  replace V := V.later q
  replace H := H.later q
  replace HB := Lib.hid (HB.out.trans (q.mono HB.out.size))
  clear q
  go_wp2
  go_ret2
  exact ⟨v, by rw [HBT.out]; rfl, by rw [HBT.out]; exact HVV.out, hvl, HB.out⟩

set_option maxHeartbeats 8000000 in
set_option maxRecDepth 100000 in
theorem specFluxThroughL (wd hi : Int) (wb : Bool) (a b : Option Addr) (ca cb : Nat) (xs ys : List Nat) (a0 a1 a2 : Option Addr) (c0 c1 c2 : Nat) (e x y : List Nat) (u : Int) (w : World) (ha : RowV w a (fvals xs)) (hb : RowV w b (fvals ys)) (qa : ∀ z ∈ xs, z < 2 ^ 32) (qb : ∀ z ∈ ys, z < 2 ^ 32) (hx : xs.length ≤ maxLen) (hy : ys.length ≤ maxLen) (h0 : RowV w a0 (fvals e)) (h1 : RowV w a1 (fvals x)) (h2 : RowV w a2 (fvals y)) (q0 : ∀ z ∈ e, z < 2 ^ 32) (q1 : ∀ z ∈ x, z < 2 ^ 32) (q2 : ∀ z ∈ y, z < 2 ^ 32) (m0 : e.length ≤ maxLen) (m1 : x.length ≤ maxLen) (m2 : y.length ≤ maxLen) (w1 : (Lit.int .i64 u).wf = true) :
    Calls Try.prog 48 #[.agg #[.int .i64 wd, .int .i64 hi, .bool wb, .slice a xs.length ca, .slice b ys.length cb], .agg #[.slice a0 e.length c0, .slice a1 x.length c1, .slice a2 y.length c2], .int .i64 u] w (GaveN w (fluxB wd hi wb xs ys e x y u) (sumS (colP wd u) (fluxG e y) (wd * hi).toNat)) := by
  rcases hfv : fieldB wd hi wb xs ys e x y with _ | _
  · skip
    refine Calls.mono ?_ (fun e w9 h9 => gaveN_no (by unfold fluxB; rw [hfv]; rfl) h9)
    have H_fb := Lib.hid hfv; clear hfv
    have X := Blk.new w #[.int .i64 wd, .int .i64 hi, .bool wb, .slice a xs.length ca, .slice b ys.length cb] 29
    have Y := Blk.new1 w (.cells #[.int .i64 wd, .int .i64 hi, .bool wb, .slice a xs.length ca, .slice b ys.length cb] 29) #[.slice a0 e.length c0, .slice a1 x.length c1, .slice a2 y.length c2] 52
    replace X := X.alloc (.cells #[.slice a0 e.length c0, .slice a1 x.length c1, .slice a2 y.length c2] 52)
    have HB : Hid (Below w.heap.size w ((w.alloc (.cells #[.int .i64 wd, .int .i64 hi, .bool wb, .slice a xs.length ca, .slice b ys.length cb] 29)).alloc (.cells #[.slice a0 e.length c0, .slice a1 x.length c1, .slice a2 y.length c2] 52))) := Lib.hid (((Below.refl w.heap.size w).alloc (by simp <;> omega) _).alloc (by simp <;> omega) _)
    go_enter Try.func48, Try.ntmps48
    go_wp2_with fail
    generalize ((w.alloc (.cells #[.int .i64 wd, .int .i64 hi, .bool wb, .slice a xs.length ca, .slice b ys.length cb] 29)).alloc (.cells #[.slice a0 e.length c0, .slice a1 x.length c1, .slice a2 y.length c2] 52)) = u1 at *
    refine (specBoth _ _ _ _ _ _ _ _ _ _ _ _ _ _ _ _ _ _ _ _ _ X Y (ha.later HB.out) (hb.later HB.out) hx hy (h0.later HB.out) (h1.later HB.out) (h2.later HB.out) m0 m1 m2).mono ?_
    rintro r u2 ⟨rfl, nq, hw⟩
    have q : Below u1.heap.size u1 u2 := by rw [hw]; exact below_drewN (Below.refl _ _) _
    clear hw
    replace X := X.later q
    replace Y := Y.later q
    replace HB := Lib.hid (HB.out.trans (q.mono HB.out.size))
    clear q
    rw [H_fb.out]
    go_wp2
    go_ret2
    exact ⟨0, rfl, canon_zero .f32, by decide, HB.out⟩
  have HB0 : Hid (fluxB wd hi wb xs ys e x y u = decide (0 ≤ u ∧ u ≤ wd - 1)) := Lib.hid (by unfold fluxB; rw [hfv, Bool.true_and, decide_eq_decide]; omega)
  obtain ⟨p1, _, l0, l1, l2⟩ := field_parts hfv
  obtain ⟨s1, s2, s3, s4, hm2, lx, ly⟩ := valid_parts p1
  obtain ⟨t1, t2⟩ := (sides_mul (valid_sides p1)).2.2.2.2
  obtain ⟨n, hn⟩ := Int.eq_ofNat_of_zero_le (show 0 ≤ wd * hi by omega)
  have E0 : e.length = n := by omega
  have E1 : x.length = n := by omega
  have E2 : y.length = n := by omega
  have n256 : n ≤ 256 := by omega
  have n0 : 0 < n := by omega
  obtain ⟨b0, o0, rfl, hz0⟩ := h0 0 _ (fvals_get (show 0 < e.length by omega)); clear hz0
  obtain ⟨b1, o1, rfl, hz1⟩ := h1 0 _ (fvals_get (show 0 < x.length by omega)); clear hz1
  obtain ⟨b2, o2, rfl, hz2⟩ := h2 0 _ (fvals_get (show 0 < y.length by omega)); clear hz2
  have CV : ∀ u, Below w.heap.size w u → Blk u w.heap.size #[.int .i64 wd, .int .i64 hi, .bool wb, .slice a xs.length ca, .slice b ys.length cb] 29 → Blk u (w.heap.size + 1) #[.slice (some ⟨b0, o0, none⟩) n c0, .slice (some ⟨b1, o1, none⟩) n c1, .slice (some ⟨b2, o2, none⟩) n c2] 52 → Calls Try.prog 87 #[.pointer (some ⟨w.heap.size, 0, none⟩), .pointer (some ⟨w.heap.size + 1, 0, none⟩)] u fun e w' => e = .returned (.bool true) ∧ Below u.heap.size u w' := fun u hu X Y => by
    have := specBoth w.heap.size (w.heap.size + 1) wd hi wb a b ca cb xs ys (some ⟨b0, o0, none⟩) (some ⟨b1, o1, none⟩) (some ⟨b2, o2, none⟩) c0 c1 c2 e x y u X (by rw [E0, E1, E2]; exact Y) (ha.later hu) (hb.later hu) hx hy (h0.later hu) (h1.later hu) (h2.later hu) m0 m1 m2
    rw [hfv] at this
    exact this.mono fun e w' ⟨h, nq, hw⟩ => ⟨h, by rw [hw]; exact below_drewN (Below.refl _ _) _⟩
  have HCV := Lib.hid CV; clear CV
  rw [E0, E1, E2]
  have HN := Lib.hid hn; have L0 := Lib.hid E0; have L1 := Lib.hid E1; have L2 := Lib.hid E2; clear hn E0 E1 E2 l0 l1 l2 lx ly t1 t2
  clear p1 hfv
  rcases hwi : decide (0 ≤ u ∧ u ≤ wd - 1) with _ | _
  · skip
    refine Calls.mono ?_ (fun e w9 h9 => gaveN_no (by rw [HB0.out, hwi]) h9)
    have HW := Lib.hid hwi; clear hwi
    have X := Blk.new w #[.int .i64 wd, .int .i64 hi, .bool wb, .slice a xs.length ca, .slice b ys.length cb] 29
    have Y := Blk.new1 w (.cells #[.int .i64 wd, .int .i64 hi, .bool wb, .slice a xs.length ca, .slice b ys.length cb] 29) #[.slice (some ⟨b0, o0, none⟩) n c0, .slice (some ⟨b1, o1, none⟩) n c1, .slice (some ⟨b2, o2, none⟩) n c2] 52
    replace X := X.alloc (.cells #[.slice (some ⟨b0, o0, none⟩) n c0, .slice (some ⟨b1, o1, none⟩) n c1, .slice (some ⟨b2, o2, none⟩) n c2] 52)
    have HB : Hid (Below w.heap.size w ((w.alloc (.cells #[.int .i64 wd, .int .i64 hi, .bool wb, .slice a xs.length ca, .slice b ys.length cb] 29)).alloc (.cells #[.slice (some ⟨b0, o0, none⟩) n c0, .slice (some ⟨b1, o1, none⟩) n c1, .slice (some ⟨b2, o2, none⟩) n c2] 52))) := Lib.hid (((Below.refl w.heap.size w).alloc (by simp <;> omega) _).alloc (by simp <;> omega) _)
    go_enter Try.func48, Try.ntmps48
    go_wp2_with fail
    generalize ((w.alloc (.cells #[.int .i64 wd, .int .i64 hi, .bool wb, .slice a xs.length ca, .slice b ys.length cb] 29)).alloc (.cells #[.slice (some ⟨b0, o0, none⟩) n c0, .slice (some ⟨b1, o1, none⟩) n c1, .slice (some ⟨b2, o2, none⟩) n c2] 52)) = u1 at *
    refine (HCV.out _ HB.out X Y).mono ?_
    rintro r u2 ⟨rfl, q⟩
    replace X := X.later q
    replace Y := Y.later q
    replace HB := Lib.hid (HB.out.trans (q.mono HB.out.size))
    clear q
    obtain ⟨Xc, Xf⟩ := X.open
    go_wp2_with fail
    refine (l00In_any _ _ _ _).mono ?_
    rintro r w9 ⟨rfl, rfl⟩
    rw [HW.out]
    go_wp2
    go_ret2
    exact ⟨0, rfl, canon_zero .f32, by decide, HB.out⟩
  have HBT : Hid (fluxB wd hi wb xs ys e x y u = true) := Lib.hid (by rw [HB0.out, hwi])
  obtain ⟨u0, u1⟩ := of_decide_eq_true hwi
  have HW := Lib.hid hwi; clear hwi
  obtain ⟨m, rfl⟩ := Int.eq_ofNat_of_zero_le (show 0 ≤ wd by omega)
  obtain ⟨h, rfl⟩ := Int.eq_ofNat_of_zero_le (show 0 ≤ hi by omega)
  obtain ⟨c, rfl⟩ := Int.eq_ofNat_of_zero_le u0
  have HMN : Hid (m * h = n) := Lib.hid (by have := HN.out; rw [← Int.natCast_mul] at this; omega)
  have HTT : Hid (sumS (colP (m : Int) (c : Int)) (fluxG e y) ((m : Int) * (h : Int)).toNat = sumT m c (fluxG e y) h) := Lib.hid (by rw [show ((m : Int) * (h : Int)).toNat = m * h by rw [← Int.natCast_mul]; rfl]; exact sum_cols (by omega) h)
  rw [HTT.out]
  have aslc : ∀ w, (isAgg 22).run Try.prog w = .ok false w := fun w => by kernel_rfl
  have af32 : ∀ w, (isAgg 45).run Try.prog w = .ok false w := fun w => by kernel_rfl
  have X := Blk.new w #[.int .i64 (m : Int), .int .i64 (h : Int), .bool wb, .slice a xs.length ca, .slice b ys.length cb] 29
  have Y := Blk.new1 w (.cells #[.int .i64 (m : Int), .int .i64 (h : Int), .bool wb, .slice a xs.length ca, .slice b ys.length cb] 29) #[.slice (some ⟨b0, o0, none⟩) n c0, .slice (some ⟨b1, o1, none⟩) n c1, .slice (some ⟨b2, o2, none⟩) n c2] 52
  replace X := X.alloc (.cells #[.slice (some ⟨b0, o0, none⟩) n c0, .slice (some ⟨b1, o1, none⟩) n c1, .slice (some ⟨b2, o2, none⟩) n c2] 52)
  have HB : Hid (Below w.heap.size w ((w.alloc (.cells #[.int .i64 (m : Int), .int .i64 (h : Int), .bool wb, .slice a xs.length ca, .slice b ys.length cb] 29)).alloc (.cells #[.slice (some ⟨b0, o0, none⟩) n c0, .slice (some ⟨b1, o1, none⟩) n c1, .slice (some ⟨b2, o2, none⟩) n c2] 52))) := Lib.hid (((Below.refl w.heap.size w).alloc (by simp <;> omega) _).alloc (by simp <;> omega) _)
  go_enter Try.func48, Try.ntmps48
  go_wp2_with fail
  generalize ((w.alloc (.cells #[.int .i64 (m : Int), .int .i64 (h : Int), .bool wb, .slice a xs.length ca, .slice b ys.length cb] 29)).alloc (.cells #[.slice (some ⟨b0, o0, none⟩) n c0, .slice (some ⟨b1, o1, none⟩) n c1, .slice (some ⟨b2, o2, none⟩) n c2] 52)) = u1 at *
  refine (HCV.out _ HB.out X Y).mono ?_
  rintro r u2 ⟨rfl, q⟩
  replace X := X.later q
  replace Y := Y.later q
  replace HB := Lib.hid (HB.out.trans (q.mono HB.out.size))
  clear q
  obtain ⟨Xc, Xf⟩ := X.open
  go_wp2_with fail
  refine (l00In_any _ _ _ _).mono ?_
  rintro r w9 ⟨rfl, rfl⟩
  rw [HW.out]
  clear Xc Xf
  obtain ⟨Xc, Xf⟩ := X.open
  obtain ⟨Yc, Yf⟩ := Y.open
  go_wp2
  clear Xc Xf Yc Yf
  go_loopw [9, 8] (fun jv sv wr => ∃ (j s : Nat), j ≤ h ∧ jv = .int .i64 j ∧ sv = .float .f32 s ∧ canon .f32 s = sumT m c (fluxG e y) j ∧ s < 2 ^ 32 ∧ Blk wr w.heap.size #[.int .i64 (m : Int), .int .i64 (h : Int), .bool wb, .slice a xs.length ca, .slice b ys.length cb] 29 ∧ Blk wr (w.heap.size + 1) #[.slice (some ⟨b0, o0, none⟩) n c0, .slice (some ⟨b1, o1, none⟩) n c1, .slice (some ⟨b2, o2, none⟩) n c2] 52 ∧ Below w.heap.size w wr) (fun jv _ _ => h - (intOf jv).toNat)
  case atStart => exact ⟨0, 0, Nat.zero_le _, rfl, rfl, canon_zero .f32, by decide, X, Y, HB.out⟩
  case round =>
    obtain ⟨j, s, hj, rfl, rfl, hs, hsl, X, Y, hb⟩ := hrel
    replace HB := Lib.hid hb; have HS := Lib.hid hs; clear hb hs
    by_cases hlt : j < h
    · skip
      have hji : (j : Int) < (h : Int) := by omega
      obtain ⟨q, hq⟩ : ∃ q : Nat, q = c + m * j := ⟨_, rfl⟩
      have hq1 : (c : Int) + (m : Int) * (j : Int) = (q : Int) := by rw [hq, Int.natCast_add, Int.natCast_mul]
      have hqn : q < n := by have h9 := HMN.out; have := Nat.mul_le_mul_left m (show j + 1 ≤ h by omega); rw [Nat.mul_succ] at this; omega
      have hmj0 : 0 ≤ (m : Int) * (j : Int) := Int.mul_nonneg (by omega) (by omega)
      have hmj1 : (m : Int) * (j : Int) ≤ 256 := by omega
      have hqi : (q : Int) < (n : Int) := by omega
      have l0 := L0.out; have l1 := L1.out; have l2 := L2.out
      obtain ⟨_, _, e9, f0⟩ := h0.later HB.out q _ (fvals_get (show q < e.length by omega)); cases e9
      obtain ⟨_, _, e9, f2⟩ := h2.later HB.out q _ (fvals_get (show q < y.length by omega)); cases e9
      have HGK : Hid (sumT m c (fluxG e y) (j + 1) = fop .add .f32 (sumT m c (fluxG e y) j) (fop .mul .f32 (canon .f32 e[q]) (canon .f32 y[q]))) := Lib.hid (by rw [sumT, ← hq]; unfold fluxG; rw [getD_get (show q < e.length by omega), getD_get (show q < y.length by omega)])
      generalize e[q] = v0 at *
      generalize y[q] = v2 at *
      clear l0 l1 l2
      have HQ1 := Lib.hid hq1
      clear hq
      obtain ⟨Xc, Xf⟩ := X.open
      go_upto_region 8 with (fail)
      clear Xc Xf hq1
      (try simp only [HQ1.out])
      obtain ⟨Yc, Yf⟩ := Y.open
      refine wp_region_relC (Grows wr) (fun _ _ _ => True) (by kernel_rfl) (by kernel_rfl) (Grows.drew _) ?_
      (refine wpRel_plain rfl rfl ?_; intro K hK; go_big_quiet_op; (first | go_big_quiet_on | (refine ⟨_, fun _ _ => rfl, ?_⟩; go_big_quiet_on)))
      (refine wpRel_plain rfl rfl ?_; intro K hK; go_big_quiet_op; (first | go_big_quiet_on | (refine ⟨_, fun _ _ => rfl, ?_⟩; go_big_quiet_on)))
      (refine wpRel_load rfl (⟨w.heap.size + 1, 0, none⟩) (by kernel_rfl) (.slice (some ⟨b0, o0, none⟩) n c0) (load_cell aslc (Yc 0)) ?_; simp only [Act.put, List.setIfInBounds_toArray, List.set_cons_zero, List.set_cons_succ])
      (refine wpRel_plain rfl rfl ?_; intro K hK; go_big_quiet_op; (first | go_big_quiet_on | (refine ⟨_, fun _ _ => rfl, ?_⟩; go_big_quiet_on)))
      (refine wpRel_plain rfl rfl ?_; intro K hK; go_big_quiet_op; (first | go_big_quiet_on | (refine ⟨_, fun _ _ => rfl, ?_⟩; go_big_quiet_on)))
      (refine wpRel_load rfl (⟨b0, o0 + q, none⟩) (by kernel_rfl) (.float .f32 v0) (load_cell af32 f0) ?_; simp only [Act.put, List.setIfInBounds_toArray, List.set_cons_zero, List.set_cons_succ])
      (refine wpRel_plain rfl rfl ?_; intro K hK; go_big_quiet_op; (first | go_big_quiet_on | (refine ⟨_, fun _ _ => rfl, ?_⟩; go_big_quiet_on)))
      (refine wpRel_load rfl (⟨w.heap.size + 1, 2, none⟩) (by kernel_rfl) (.slice (some ⟨b2, o2, none⟩) n c2) (load_cell aslc (Yc 2)) ?_; simp only [Act.put, List.setIfInBounds_toArray, List.set_cons_zero, List.set_cons_succ])
      (refine wpRel_plain rfl rfl ?_; intro K hK; go_big_quiet_op; (first | go_big_quiet_on | (refine ⟨_, fun _ _ => rfl, ?_⟩; go_big_quiet_on)))
      (refine wpRel_plain rfl rfl ?_; intro K hK; go_big_quiet_op; (first | go_big_quiet_on | (refine ⟨_, fun _ _ => rfl, ?_⟩; go_big_quiet_on)))
      (refine wpRel_load rfl (⟨b2, o2 + q, none⟩) (by kernel_rfl) (.float .f32 v2) (load_cell af32 f2) ?_; simp only [Act.put, List.setIfInBounds_toArray, List.set_cons_zero, List.set_cons_succ])
      (refine wpRel_arithC rfl rfl (fun _ n h => Grows.drewN n h) .f32 (v0) (v2) (by kernel_rfl) (by kernel_rfl) ?_; intro t8 hc_t8 hb_t8; have H_t8 := Lib.hid hc_t8; clear hc_t8; replace hb_t8 : t8 < 2 ^ 32 := hb_t8; simp only [Act.put, List.setIfInBounds_toArray, List.set_cons_zero, List.set_cons_succ])
      (refine wpRel_arithC rfl rfl (fun _ n h => Grows.drewN n h) .f32 (s) (t8) (by kernel_rfl) (by kernel_rfl) ?_; intro t9 hc_t9 hb_t9; have H_t9 := Lib.hid hc_t9; clear hc_t9; replace hb_t9 : t9 < 2 ^ 32 := hb_t9; simp only [Act.put, List.setIfInBounds_toArray, List.set_cons_zero, List.set_cons_succ])
      (refine wpRel_plain rfl rfl ?_; intro K hK; go_big_quiet_op; (first | go_big_quiet_on | (refine ⟨_, fun _ _ => rfl, ?_⟩; go_big_quiet_on)))
      refine wpRel_nil ?_
      intro u4 hw'
      replace hw' : Below wr.heap.size wr u4 := hw'
      replace X := X.later hw'; replace Y := Y.later hw'; replace HB := Lib.hid (HB.out.trans (hw'.mono HB.out.size)); clear hw' Yc Yf f0 f2
      have HV : Hid (canon .f32 t9 = sumT m c (fluxG e y) (j + 1)) := Lib.hid (by rw [H_t9.out, HS.out, H_t8.out, HGK.out])
      obtain ⟨Xc, Xf⟩ := X.open
      go_wp2
      go_roundw
      case rel => exact ⟨j + 1, t9, by omega, by go_num, rfl, HV.out, hb_t9, X, Y, HB.out⟩
      case measure => simp [intOf]; omega
    · skip
      obtain rfl : j = h := by omega
      obtain ⟨Xc, Xf⟩ := X.open
      go_wp2
      go_ret2
      exact ⟨s, by rw [HBT.out]; rfl, by rw [HBT.out]; exact HS.out, hsl, HB.out⟩

end Go.Proofs.Ythlkndjllhdppaa
