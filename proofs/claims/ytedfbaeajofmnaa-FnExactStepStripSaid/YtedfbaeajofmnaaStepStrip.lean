/- The part of a strip behind a step: the program's answer and the model's. Conditions: none beyond those of each theorem. -/
import Derived.Test.YtedfbaeajofmnaaCut
import Derived.Test.YtedfbaeajofmnaaHalo
import Derived.Test.YtedfbaeajofmnaaBu19
import Derived.Test.YtedfbaeajofmnaaSpecStepK
import Derived.Test.YtedfbaeajofmnaaFieldOfK
import Derived.Test.YtedfbaeajofmnaaBu22
namespace Go.Proofs.Ytedfbaeajofmnaa
open Go Ieee Go.RowKit
set_option linter.unusedVariables false
set_option linter.unusedSimpArgs false

def wholeP (fr ct : Int) (m j : Nat) : Bool := hasS fr ct ((j / m : Nat) : Int)
def halfP (fr ct : Int) (wb : Bool) (m k j : Nat) : Bool := hasS fr ct ((j / m : Nat) : Int) || hasS fr ct (rowA wb (k : Int) (((j / m : Nat) : Int) + 1))
/-- some of these numbers, from a strip's first one on -/
def pL (wd fr ct : Int) (C : Nat → Option Nat) : List (Option Nat) := (List.range (wd * ct).toNat).map fun i => C ((wd * fr).toNat + i)

theorem is_part {n q l : Nat} {z : List Nat} {C D : Nat → Option Nat} (h : LAg n z C) (hq : q + l ≤ n) (hl : l ≤ 256) (hCD : ∀ i, i < l → C (q + i) = D (q + i)) : Is (placed (fun i => q + i) l z) ((List.range l).map fun i => D (q + i)) := by
  have h0 := is_placed (f := fun i => q + i) (n := l) h.2.1 hl
  have e : (List.range l).map (fun i => D (q + i)) = cl (placed (fun i => q + i) l z) := by
    unfold cl placed
    rw [List.map_map]
    apply List.map_congr_left
    intro i hi
    have hi' := List.mem_range.1 hi
    rw [← hCD i hi', ← h.2.2 (q + i) (by omega)]
    rfl
  rw [e]; exact h0

theorem in_strip {m q l i : Nat} {fr ct : Int} (hm : 0 < m) (f0 : 0 ≤ fr) (f3 : 1 ≤ ct) (e1 : (m : Int) * fr = (q : Int)) (e2 : (m : Int) * (fr + ct) = ((q + l : Nat) : Int)) (hi : i < l) : wholeP fr ct m (q + i) = true := by
  obtain ⟨f, rfl⟩ := Int.eq_ofNat_of_zero_le f0
  obtain ⟨c, rfl⟩ := Int.eq_ofNat_of_zero_le (show 0 ≤ ct by omega)
  rw [← Int.natCast_mul] at e1
  rw [← Int.natCast_add, ← Int.natCast_mul] at e2
  have e1' : m * f = q := Int.ofNat_inj.1 e1
  have e2' : m * (f + c) = q + l := Int.ofNat_inj.1 e2
  have a1 : f ≤ (q + i) / m := (Nat.le_div_iff_mul_le hm).2 (by rw [Nat.mul_comm]; omega)
  have a2 : (q + i) / m < f + c := (Nat.div_lt_iff_lt_mul hm).2 (by rw [Nat.mul_comm]; omega)
  unfold wholeP hasS
  rw [decide_eq_true]
  omega

theorem row_up {k y : Nat} {wb : Bool} (hy : y < k) (hb : wb = true ∨ y ≠ 0) : rowA wb (k : Int) ((((y + (k - 1)) % k : Nat) : Int) + 1) = (y : Int) := by
  by_cases h0 : y = 0
  · rcases hb with rfl | h
    · subst h0
      rw [Nat.zero_add, Nat.mod_eq_of_lt (by omega)]
      show (((k - 1 : Nat) : Int) + 1) % (k : Int) = 0
      rw [show ((k - 1 : Nat) : Int) + 1 = (k : Int) by omega, Int.emod_self]
    · exact absurd h0 h
  · rw [show y + (k - 1) = (y - 1) + k by omega, Nat.add_mod_right, Nat.mod_eq_of_lt (by omega)]
    have e : ((y - 1 : Nat) : Int) + 1 = (y : Int) := by omega
    rw [e]
    cases wb
    · rfl
    · exact Int.emod_eq_of_lt (by omega) (by omega)

theorem row_of {m r q : Nat} (hm : 0 < m) (hr : r < m) : (r + m * q) / m = q := by
  rw [Nat.add_mul_div_left _ _ hm, Nat.div_eq_of_lt hr, Nat.zero_add]

theorem strip_at {m k n i : Nat} {wb : Bool} {fr ct : Int} {js ks : List Nat} {S L E X Y HX HY : Nat → Option Nat} (h1 : 3 ≤ m) (h3 : 3 ≤ k) (hn : n = m * k) (hi : i < n) (hw : wholeP fr ct m i = true)
    (hjs : ∀ j, j < n → decide (j ∈ js) = halfP fr ct wb m k j) (hks : ∀ j, j < n → decide (j ∈ ks) = wholeP fr ct m j) :
    mixd (fun i => decide (i ∈ js)) HX X i = HX i ∧ mixd (fun i => decide (i ∈ js)) HY Y i = HY i ∧ mixd (fun i => decide (i ∈ ks)) (restE wb m k S L E (mixd (fun i => decide (i ∈ js)) HX X) (mixd (fun i => decide (i ∈ js)) HY Y)) E i = restE wb m k S L E HX HY i := by
  have him : i < m * k := by rw [← hn]; exact hi
  have hup := up_lt (i := i) (m := m) (k := k) (by omega) (by omega); have hlf := lf_lt (m := m) (k := k) (by omega) him
  rw [← hn] at hup hlf
  obtain ⟨tp, tq, _⟩ := at_lt him (show 0 < m by omega)
  have mx : ∀ (A B : Nat → Option Nat) j, j < n → halfP fr ct wb m k j = true → mixd (fun i => decide (i ∈ js)) A B j = A j := fun A B j hj hp => by
    unfold mixd
    rw [show (fun i => decide (i ∈ js)) j = true from (hjs j hj).trans hp]; rfl
  have hp0 : halfP fr ct wb m k i = true := by unfold halfP; unfold wholeP at hw; rw [hw]; rfl
  refine ⟨mx _ _ i hi hp0, mx _ _ i hi hp0, ?_⟩
  have e0 : mixd (fun i => decide (i ∈ ks)) (restE wb m k S L E (mixd (fun i => decide (i ∈ js)) HX X) (mixd (fun i => decide (i ∈ js)) HY Y)) E i = restE wb m k S L E (mixd (fun i => decide (i ∈ js)) HX X) (mixd (fun i => decide (i ∈ js)) HY Y) i := by
    conv => lhs; unfold mixd
    rw [show (fun i => decide (i ∈ ks)) i = true from (hks i hi).trans hw]; rfl
  rw [e0]
  unfold restE
  rcases hb : bordB wb (m : Int) (k : Int) ((i % m : Nat) : Int) ((i / m : Nat) : Int) with _ | _
  · have hlp : halfP fr ct wb m k (lfI m i) = true := by
      unfold halfP lfI
      rw [row_of (by omega) (Nat.mod_lt _ (by omega))]
      unfold wholeP at hw; rw [hw]; rfl
    have hupp : halfP fr ct wb m k (upI m k i) = true := by
      unfold halfP upI
      rw [row_of (by omega) (Nat.mod_lt _ (by omega)), row_up tq (by
        unfold bordB at hb
        cases wb
        · right; intro h0
          rw [h0] at hb; simp at hb
        · exact .inl rfl)]
      unfold wholeP at hw; rw [hw, Bool.or_true]
    rw [mx _ _ i hi hp0, mx _ _ i hi hp0, mx _ _ _ hlf hlp, mx _ _ _ hup hupp]
  · rfl

set_option maxHeartbeats 4000000 in
theorem implTask1 (m k : Nat) (fr ct x y : Int) (wb : Bool) (gq gh : Nat) (w : World) (Q : Blk w gq #[.int .i64 fr, .int .i64 ct] 31) (H : Blk w gh #[.int .i64 (m : Int), .int .i64 (k : Int), .bool wb] 80) (s3 : 3 ≤ k) (s4 : k ≤ 16) (y0 : 0 ≤ y) (y1 : y ≤ 16) (b1 : 0 ≤ fr) (b2 : fr ≤ 1000) (b3 : 0 ≤ ct) (b4 : ct ≤ 1000) :
    Calls Try.prog 138 #[.agg #[.int .i64 x, .int .i64 y], .pointer (some ⟨gq, 0, none⟩), .pointer (some ⟨gh, 0, none⟩)] w fun e w' => e = .returned (.bool (hasS fr ct y || hasS fr ct (rowA wb (k : Int) (y + 1)))) ∧ Below w.heap.size w w' := by
  rcases hh : hasS fr ct y with _ | _
  · skip
    have HH := Lib.hid hh; clear hh
    have C := Blk.new w #[.int .i64 x, .int .i64 y] 134
    have HB : Hid (Below w.heap.size w (w.alloc (.cells #[.int .i64 x, .int .i64 y] 134))) := Lib.hid ((Below.refl w.heap.size w).alloc (by simp <;> omega) _)
    go_enter Try.func138, Try.ntmps138
    go_upto_region 1 with (fail)
    generalize (w.alloc (.cells #[.int .i64 x, .int .i64 y] 134)) = u1 at *
    replace Q := Q.later HB.out; replace H := H.later HB.out
    obtain ⟨Cc, Cf⟩ := C.open
    obtain ⟨Qc, Qf⟩ := Q.open
    obtain ⟨Hc, Hf⟩ := H.open
    go_wp2_with fail
    refine (implPHas fr ct y _ b1 b2 b3 b4).mono ?_
    rintro r u2 ⟨rfl, q⟩
    clear Cc Cf
    clear Qc Qf
    clear Hc Hf
    replace C := C.later q
    replace Q := Q.later q
    replace H := H.later q
    replace HB := Lib.hid (HB.out.trans (q.mono HB.out.size))
    clear q
    rw [HH.out]
    obtain ⟨Cc, Cf⟩ := C.open
    obtain ⟨Qc, Qf⟩ := Q.open
    obtain ⟨Hc, Hf⟩ := H.open
    go_wp2_with fail
    refine (implRowBefore (m : Int) (k : Int) fr ct y wb _ (by omega) (by omega) y0 y1 b1 b2 b3 b4).mono ?_
    rintro r u3 ⟨rfl, q⟩
    clear Cc Cf
    clear Qc Qf
    clear Hc Hf
    replace C := C.later q
    replace Q := Q.later q
    replace H := H.later q
    replace HB := Lib.hid (HB.out.trans (q.mono HB.out.size))
    clear q
    go_wp2
    go_ret
    exact ⟨rfl, HB.out⟩
  · skip
    have HH := Lib.hid hh; clear hh
    have C := Blk.new w #[.int .i64 x, .int .i64 y] 134
    have HB : Hid (Below w.heap.size w (w.alloc (.cells #[.int .i64 x, .int .i64 y] 134))) := Lib.hid ((Below.refl w.heap.size w).alloc (by simp <;> omega) _)
    go_enter Try.func138, Try.ntmps138
    go_upto_region 1 with (fail)
    generalize (w.alloc (.cells #[.int .i64 x, .int .i64 y] 134)) = u1 at *
    replace Q := Q.later HB.out; replace H := H.later HB.out
    obtain ⟨Cc, Cf⟩ := C.open
    obtain ⟨Qc, Qf⟩ := Q.open
    obtain ⟨Hc, Hf⟩ := H.open
    go_wp2_with fail
    refine (implPHas fr ct y _ b1 b2 b3 b4).mono ?_
    rintro r u2 ⟨rfl, q⟩
    clear Cc Cf
    clear Qc Qf
    clear Hc Hf
    replace C := C.later q
    replace Q := Q.later q
    replace H := H.later q
    replace HB := Lib.hid (HB.out.trans (q.mono HB.out.size))
    clear q
    rw [HH.out]
    obtain ⟨Cc, Cf⟩ := C.open
    obtain ⟨Qc, Qf⟩ := Q.open
    obtain ⟨Hc, Hf⟩ := H.open
    go_wp2
    go_ret
    exact ⟨rfl, HB.out⟩

theorem implTask2 (fr ct x y : Int) (gq : Nat) (w : World) (Q : Blk w gq #[.int .i64 fr, .int .i64 ct] 31) (b1 : 0 ≤ fr) (b2 : fr ≤ 1000) (b3 : 0 ≤ ct) (b4 : ct ≤ 1000) :
    Calls Try.prog 139 #[.agg #[.int .i64 x, .int .i64 y], .pointer (some ⟨gq, 0, none⟩)] w fun e w' => e = .returned (.bool (hasS fr ct y)) ∧ Below w.heap.size w w' := by
  have C := Blk.new w #[.int .i64 x, .int .i64 y] 134
  have HB : Hid (Below w.heap.size w (w.alloc (.cells #[.int .i64 x, .int .i64 y] 134))) := Lib.hid ((Below.refl w.heap.size w).alloc (by simp <;> omega) _)
  go_enter Try.func139, Try.ntmps139
  go_upto_region 1 with (fail)
  generalize (w.alloc (.cells #[.int .i64 x, .int .i64 y] 134)) = u1 at *
  replace Q := Q.later HB.out
  obtain ⟨Cc, Cf⟩ := C.open
  obtain ⟨Qc, Qf⟩ := Q.open
  go_wp2_with fail
  refine (implPHas fr ct y _ b1 b2 b3 b4).mono ?_
  rintro r u2 ⟨rfl, q⟩
  clear Cc Cf
  clear Qc Qf
  replace C := C.later q
  replace Q := Q.later q
  replace HB := Lib.hid (HB.out.trans (q.mono HB.out.size))
  clear q
  go_wp2
  go_ret
  exact ⟨rfl, HB.out⟩

set_option maxHeartbeats 8000000 in
set_option maxRecDepth 100000 in
theorem implTaskOf (m k n : Nat) (fr ct : Int) (wb : Bool) (w : World) (h1 : 3 ≤ m) (h2 : m ≤ 16) (h3 : 3 ≤ k) (h4 : k ≤ 16) (hn : Hid (n = m * k)) (b1 : 0 ≤ fr) (b2 : fr ≤ 1000) (b3 : 0 ≤ ct) (b4 : ct ≤ 1000) :
    Calls Try.prog 93 #[.agg #[.int .i64 (m : Int), .int .i64 (k : Int), .bool wb], .agg #[.int .i64 fr, .int .i64 ct]] w fun e w' => ∃ ah aw ch cw, e = .returned (.agg #[.slice ah (pick n (halfP fr ct wb m k)).length ch, .slice aw (pick n (wholeP fr ct m)).length cw]) ∧ RowV w' ah (pvals (cellsT m (pick n (halfP fr ct wb m k)))) ∧ RowV w' aw (pvals (cellsT m (pick n (wholeP fr ct m)))) ∧ Below w.heap.size w w' := by
  have H := Blk.new w #[.int .i64 (m : Int), .int .i64 (k : Int), .bool wb] 80
  have Q := Blk.new1 w (.cells #[.int .i64 (m : Int), .int .i64 (k : Int), .bool wb] 80) #[.int .i64 fr, .int .i64 ct] 31
  replace H := H.alloc (.cells #[.int .i64 fr, .int .i64 ct] 31)
  have R := Blk.new2 w (.cells #[.int .i64 (m : Int), .int .i64 (k : Int), .bool wb] 80) (.cells #[.int .i64 fr, .int .i64 ct] 31) #[.slice none 0 0, .slice none 0 0] 130
  replace H := H.alloc (.cells #[.slice none 0 0, .slice none 0 0] 130)
  replace Q := Q.alloc (.cells #[.slice none 0 0, .slice none 0 0] 130)
  have HB : Hid (Below w.heap.size w (((w.alloc (.cells #[.int .i64 (m : Int), .int .i64 (k : Int), .bool wb] 80)).alloc (.cells #[.int .i64 fr, .int .i64 ct] 31)).alloc (.cells #[.slice none 0 0, .slice none 0 0] 130))) := Lib.hid ((((Below.refl w.heap.size w).alloc (by simp <;> omega) _).alloc (by simp <;> omega) _).alloc (by simp <;> omega) _)
  go_enter Try.func93, Try.ntmps93
  go_wp2_with fail
  generalize (((w.alloc (.cells #[.int .i64 (m : Int), .int .i64 (k : Int), .bool wb] 80)).alloc (.cells #[.int .i64 fr, .int .i64 ct] 31)).alloc (.cells #[.slice none 0 0, .slice none 0 0] 130)) = u1 at *
  have HBU := HB.out; have zu := HBU.size; have zr := R.lt
  have IG1 : IsGo 138 := ⟨_, rfl, by kernel_rfl, by kernel_rfl⟩
  have IG2 : IsGo 139 := ⟨_, rfl, by kernel_rfl, by kernel_rfl⟩
  refine wp_region_noPanic ?_
  refine wp_region_plan (Grows u1) 7 [(0, true), (1, true), (3, true), (4, true), (2, false), (5, false), (6, true)] (by kernel_rfl) (by kernel_rfl) (fun _ _ _ _ _ h => h) (Grows.drew _) ?_
  (refine plan_load rfl rfl (⟨w.heap.size, 0, none⟩) (by kernel_rfl) (.agg #[.int .i64 (m : Int), .int .i64 (k : Int), .bool wb]) (fun w' hw' => run_loadVar_row w' _ _ _ _ _ _ (H.later hw') Try.underlying80 rfl (by kernel_rfl)) ?_; simp only [Act.put, List.setIfInBounds_toArray, List.set_cons_zero, List.set_cons_succ, List.getElem_toArray, List.getElem_cons_zero, List.getElem_cons_succ])
  (refine plan_plain rfl rfl ?_ ?_ ?_; rotate_left; focus (intro w9; go_simp <;> with_reducible rfl)); (simp only [Act.put, List.setIfInBounds_toArray, List.set_cons_zero, List.set_cons_succ, List.getElem_toArray, List.getElem_cons_zero, List.getElem_cons_succ])
  (refine plan_load rfl rfl (⟨w.heap.size, 0, none⟩) (by kernel_rfl) (.agg #[.int .i64 (m : Int), .int .i64 (k : Int), .bool wb]) (fun w' hw' => run_loadVar_row w' _ _ _ _ _ _ (H.later hw') Try.underlying80 rfl (by kernel_rfl)) ?_; simp only [Act.put, List.setIfInBounds_toArray, List.set_cons_zero, List.set_cons_succ, List.getElem_toArray, List.getElem_cons_zero, List.getElem_cons_succ])
  (refine plan_plain rfl rfl ?_ ?_ ?_; rotate_left; focus (intro w9; go_simp <;> with_reducible rfl)); (simp only [Act.put, List.setIfInBounds_toArray, List.set_cons_zero, List.set_cons_succ, List.getElem_toArray, List.getElem_cons_zero, List.getElem_cons_succ])
  have v0_ := Grows.drew u1
  generalize u1.drew = v0 at *
  have hc1 : ∀ i : Nat, i < n → ∀ w', Below v0.heap.size v0 w' → Calls Try.prog 138 (#[] ++ #[cellV m i] ++ #[.pointer (some ⟨w.heap.size + 1, 0, none⟩), .pointer (some ⟨w.heap.size, 0, none⟩)]) w' fun e w'' => e = .returned (.bool (halfP fr ct wb m k i)) ∧ Below w'.heap.size w' w'' := fun i hi w' hw' => by
    have ht := (at_lt (show i < m * k by rw [← hn.out]; exact hi) (show 0 < m by omega)).2.1
    exact implTask1 m k fr ct ((i % m : Nat) : Int) ((i / m : Nat) : Int) wb _ _ w' ((Q.later v0_).later hw') ((H.later v0_).later hw') h3 h4 (Int.natCast_nonneg _) (by have := Int.ofNat_lt.2 ht; omega) b1 b2 b3 b4
  refine plan_call rfl rfl 94 #[] #[] rfl _ Try.func94 (by kernel_rfl) (by kernel_rfl) [.agg #[.int .i64 (m : Int), .int .i64 (k : Int), .bool wb], .func (.func 138) #[] #[.pointer (some ⟨w.heap.size + 1, 0, none⟩), .pointer (some ⟨w.heap.size, 0, none⟩)]] (by kernel_rfl) #[.agg #[.int .i64 (m : Int), .int .i64 (k : Int), .bool wb], .func (.func 138) #[] #[.pointer (some ⟨w.heap.size + 1, 0, none⟩), .pointer (some ⟨w.heap.size, 0, none⟩)]] (by simp) _ (implCellsWhere m k n wb 138 #[] #[.pointer (some ⟨w.heap.size + 1, 0, none⟩), .pointer (some ⟨w.heap.size, 0, none⟩)] (halfP fr ct wb m k) v0 h1 h2 h3 h4 hn IG1 hc1) ?_
  rintro e v1 ⟨ah, ch, rfl, O1, q1⟩
  refine ⟨_, rfl, v0_.next q1, ?_⟩
  simp only [Act.put, List.setIfInBounds_toArray, List.set_cons_zero, List.set_cons_succ, List.getElem_toArray, List.getElem_cons_zero, List.getElem_cons_succ]
  have v1_ := v0_.next q1
  have hc2 : ∀ i : Nat, i < n → ∀ w', Below v1.heap.size v1 w' → Calls Try.prog 139 (#[] ++ #[cellV m i] ++ #[.pointer (some ⟨w.heap.size + 1, 0, none⟩)]) w' fun e w'' => e = .returned (.bool (wholeP fr ct m i)) ∧ Below w'.heap.size w' w'' := fun i hi w' hw' => by
    exact implTask2 fr ct ((i % m : Nat) : Int) ((i / m : Nat) : Int) _ w' ((Q.later v1_).later hw') b1 b2 b3 b4
  refine plan_call rfl rfl 94 #[] #[] rfl _ Try.func94 (by kernel_rfl) (by kernel_rfl) [.agg #[.int .i64 (m : Int), .int .i64 (k : Int), .bool wb], .func (.func 139) #[] #[.pointer (some ⟨w.heap.size + 1, 0, none⟩)]] (by kernel_rfl) #[.agg #[.int .i64 (m : Int), .int .i64 (k : Int), .bool wb], .func (.func 139) #[] #[.pointer (some ⟨w.heap.size + 1, 0, none⟩)]] (by simp) _ (implCellsWhere m k n wb 139 #[] #[.pointer (some ⟨w.heap.size + 1, 0, none⟩)] (wholeP fr ct m) v1 h1 h2 h3 h4 hn IG2 hc2) ?_
  rintro e v2 ⟨aw, cw, rfl, O2, q2⟩
  refine ⟨_, rfl, v1_.next q2, ?_⟩
  simp only [Act.put, List.setIfInBounds_toArray, List.set_cons_zero, List.set_cons_succ, List.getElem_toArray, List.getElem_cons_zero, List.getElem_cons_succ]
  have v2_ := v1_.next q2
  (refine plan_build rfl rfl #[.slice ah (pick n (halfP fr ct wb m k)).length ch, .slice aw (pick n (wholeP fr ct m)).length cw] (by kernel_rfl) ?_; simp only [Act.put, List.setIfInBounds_toArray, List.set_cons_zero, List.set_cons_succ, List.getElem_toArray, List.getElem_cons_zero, List.getElem_cons_succ])
  change wpList _ _ _ _ _ _
  simp only [List.drop_succ_cons, List.drop_zero]
  have sz0 : u1.heap.size ≤ v0.heap.size := Below.size v0_; have sz1 : u1.heap.size ≤ v1.heap.size := Below.size v1_
  have P1 := Lib.hid ((O1.later q2).lower (show u1.heap.size ≤ v0.heap.size by omega)); have P2 := Lib.hid (O2.lower (show u1.heap.size ≤ v1.heap.size by omega))
  have HB4 := Lib.hid (HBU.trans (Below.mono v2_ zu)); have R4 := R.later v2_
  clear O1 O2 q1 q2 v0_ v1_ v2_ hc1 hc2 H Q R HB
  obtain ⟨Rc, Rf⟩ := R4.open
  go_wp2_with fail
  refine NoPanic.normal ?_
  go_wp2
  exact bodyPost_ret (v := .agg #[.slice ah (pick n (halfP fr ct wb m k)).length ch, .slice aw (pick n (wholeP fr ct m)).length cw]) (by simp [results, Try.results93, go_sem, Rc]) rfl ⟨ah, aw, ch, cw, rfl, ((P1.out.set (p := ⟨w.heap.size + 1 + 1, 0, none⟩) (fun x hx => by have h9 := (P1.out.span x hx).1; show _ ≠ w.heap.size + 1 + 1; omega) _).set (p := ⟨w.heap.size + 1 + 1, 1, none⟩) (fun x hx => by have h9 := (P1.out.span x hx).1; show _ ≠ w.heap.size + 1 + 1; omega) _).row, ((P2.out.set (p := ⟨w.heap.size + 1 + 1, 0, none⟩) (fun x hx => by have h9 := (P2.out.span x hx).1; show _ ≠ w.heap.size + 1 + 1; omega) _).set (p := ⟨w.heap.size + 1 + 1, 1, none⟩) (fun x hx => by have h9 := (P2.out.span x hx).1; show _ ≠ w.heap.size + 1 + 1; omega) _).row, ((HB4.out.setCell (p := ⟨w.heap.size + 1 + 1, 0, none⟩) (by first | omega | (simp <;> omega)) _).setCell (p := ⟨w.heap.size + 1 + 1, 1, none⟩) (by first | omega | (simp <;> omega)) _)⟩

set_option maxHeartbeats 16000000 in
set_option maxRecDepth 100000 in
theorem implStepStripL (wd hi : Int) (wb : Bool) (a b : Option Addr) (ca cb : Nat) (xs ys : List Nat) (a0 a1 a2 : Option Addr) (c0 c1 c2 : Nat) (e x y : List Nat) (fr ct : Int) (w : World) (ha : RowV w a (fvals xs)) (hb : RowV w b (fvals ys)) (qa : ∀ z ∈ xs, z < 2 ^ 32) (qb : ∀ z ∈ ys, z < 2 ^ 32) (hx : xs.length ≤ maxLen) (hy : ys.length ≤ maxLen) (h0 : RowV w a0 (fvals e)) (h1 : RowV w a1 (fvals x)) (h2 : RowV w a2 (fvals y)) (q0 : ∀ z ∈ e, z < 2 ^ 32) (q1 : ∀ z ∈ x, z < 2 ^ 32) (q2 : ∀ z ∈ y, z < 2 ^ 32) (m0 : e.length ≤ maxLen) (m1 : x.length ≤ maxLen) (m2 : y.length ≤ maxLen) (hc0 : c0 = e.length := by rfl) (hc1 : c1 = x.length := by rfl) (hc2 : c2 = y.length := by rfl) :
    Calls Try.prog 49 #[.agg #[.int .i64 wd, .int .i64 hi, .bool wb, .slice a xs.length ca, .slice b ys.length cb], .agg #[.slice a0 e.length c0, .slice a1 x.length c1, .slice a2 y.length c2], .agg #[.int .i64 fr, .int .i64 ct]] w (GaveO w (cutB wd hi wb xs ys e x y fr ct) (pL wd fr ct (runL wd hi wb xs ys e x y 1).e) (pL wd fr ct (runL wd hi wb xs ys e x y 1).x) (pL wd fr ct (runL wd hi wb xs ys e x y 1).y)) := by
  subst hc0; subst hc1; subst hc2
  rcases hfv : fieldB wd hi wb xs ys e x y with _ | _
  · skip
    refine Calls.mono ?_ (fun e w9 h9 => rampO_no (by unfold cutB; rw [hfv]; rfl) h9)
    have H_fb := Lib.hid hfv; clear hfv
    have X := Blk.new w #[.int .i64 wd, .int .i64 hi, .bool wb, .slice a xs.length ca, .slice b ys.length cb] 29
    have Y := Blk.new1 w (.cells #[.int .i64 wd, .int .i64 hi, .bool wb, .slice a xs.length ca, .slice b ys.length cb] 29) #[.slice a0 e.length e.length, .slice a1 x.length x.length, .slice a2 y.length y.length] 38
    replace X := X.alloc (.cells #[.slice a0 e.length e.length, .slice a1 x.length x.length, .slice a2 y.length y.length] 38)
    have Q := Blk.new2 w (.cells #[.int .i64 wd, .int .i64 hi, .bool wb, .slice a xs.length ca, .slice b ys.length cb] 29) (.cells #[.slice a0 e.length e.length, .slice a1 x.length x.length, .slice a2 y.length y.length] 38) #[.int .i64 fr, .int .i64 ct] 31
    replace X := X.alloc (.cells #[.int .i64 fr, .int .i64 ct] 31)
    replace Y := Y.alloc (.cells #[.int .i64 fr, .int .i64 ct] 31)
    have R := Blk.new3 w (.cells #[.int .i64 wd, .int .i64 hi, .bool wb, .slice a xs.length ca, .slice b ys.length cb] 29) (.cells #[.slice a0 e.length e.length, .slice a1 x.length x.length, .slice a2 y.length y.length] 38) (.cells #[.int .i64 fr, .int .i64 ct] 31) #[.slice none 0 0, .slice none 0 0, .slice none 0 0] 38
    replace X := X.alloc (.cells #[.slice none 0 0, .slice none 0 0, .slice none 0 0] 38)
    replace Y := Y.alloc (.cells #[.slice none 0 0, .slice none 0 0, .slice none 0 0] 38)
    replace Q := Q.alloc (.cells #[.slice none 0 0, .slice none 0 0, .slice none 0 0] 38)
    have HB : Hid (Below w.heap.size w ((((w.alloc (.cells #[.int .i64 wd, .int .i64 hi, .bool wb, .slice a xs.length ca, .slice b ys.length cb] 29)).alloc (.cells #[.slice a0 e.length e.length, .slice a1 x.length x.length, .slice a2 y.length y.length] 38)).alloc (.cells #[.int .i64 fr, .int .i64 ct] 31)).alloc (.cells #[.slice none 0 0, .slice none 0 0, .slice none 0 0] 38))) := Lib.hid (((((Below.refl w.heap.size w).alloc (by simp <;> omega) _).alloc (by simp <;> omega) _).alloc (by simp <;> omega) _).alloc (by simp <;> omega) _)
    go_enter Try.func49, Try.ntmps49
    go_upto_region 1 with (fail)
    generalize ((((w.alloc (.cells #[.int .i64 wd, .int .i64 hi, .bool wb, .slice a xs.length ca, .slice b ys.length cb] 29)).alloc (.cells #[.slice a0 e.length e.length, .slice a1 x.length x.length, .slice a2 y.length y.length] 38)).alloc (.cells #[.int .i64 fr, .int .i64 ct] 31)).alloc (.cells #[.slice none 0 0, .slice none 0 0, .slice none 0 0] 38)) = u1 at *
    obtain ⟨Xc, Xf⟩ := X.open
    obtain ⟨Yc, Yf⟩ := Y.open
    go_wp2_with fail
    refine (implIsField _ _ _ _ _ _ _ _ _ _ _ _ _ _ _ _ _ _ _ (ha.later HB.out) (hb.later HB.out) hx hy (h0.later HB.out) (h1.later HB.out) (h2.later HB.out) m0 m1 m2).mono ?_
    rintro r u2 ⟨rfl, q⟩
    clear Xc Xf
    clear Yc Yf
    replace X := X.later q
    replace Y := Y.later q
    replace Q := Q.later q
    replace R := R.later q
    replace HB := Lib.hid (HB.out.trans (q.mono HB.out.size))
    clear q
    rw [H_fb.out]
    obtain ⟨Rc, Rf⟩ := R.open
    go_wp2
    refine bodyPost_ret (v := .tuple #[.agg #[.slice none 0 0, .slice none 0 0, .slice none 0 0], .bool false]) (by simp [results, Try.results49, go_sem, Rc]) rfl ⟨none, none, none, 0, 0, 0, [], [], [], rfl, GotField.none (((HB.out.setCell (p := ⟨w.heap.size + 1 + 1 + 1, 0, none⟩) (by first | omega | (simp <;> omega)) _).setCell (p := ⟨w.heap.size + 1 + 1 + 1, 1, none⟩) (by first | omega | (simp <;> omega)) _).setCell (p := ⟨w.heap.size + 1 + 1 + 1, 2, none⟩) (by first | omega | (simp <;> omega)) _)⟩
  obtain ⟨m, k, n, rfl, rfl, hn, s1, s2, s3, s4, la, lb, l0, l1, l2, np, n256⟩ := field_nat hfv
  obtain ⟨b0, o0, rfl⟩ := row_at h0 (show 0 < e.length by omega)
  obtain ⟨b1, o1, rfl⟩ := row_at h1 (show 0 < x.length by omega)
  obtain ⟨b2, o2, rfl⟩ := row_at h2 (show 0 < y.length by omega)
  obtain ⟨ba, oa, rfl⟩ := row_at ha (show 0 < xs.length by omega)
  obtain ⟨bb, ob, rfl⟩ := row_at hb (show 0 < ys.length by omega)
  have HN := Lib.hid hn; have LA := Lib.hid la; have LB := Lib.hid lb; have L0 := Lib.hid l0; have L1 := Lib.hid l1; have L2 := Lib.hid l2; clear hn la lb l0 l1 l2
  have HB0 : Hid (cutB (m : Int) (k : Int) wb xs ys e x y fr ct = isStripB (m : Int) (k : Int) xs ys fr ct) := Lib.hid (by unfold cutB; rw [hfv]; rfl)
  have H_fb := Lib.hid hfv; clear hfv
  rcases hwi : isStripB (m : Int) (k : Int) xs ys fr ct with _ | _
  · skip
    refine Calls.mono ?_ (fun e w9 h9 => rampO_no (by rw [HB0.out, hwi]) h9)
    have HW := Lib.hid hwi; clear hwi
    have X := Blk.new w #[.int .i64 (m : Int), .int .i64 (k : Int), .bool wb, .slice (some ⟨ba, oa, none⟩) xs.length ca, .slice (some ⟨bb, ob, none⟩) ys.length cb] 29
    have Y := Blk.new1 w (.cells #[.int .i64 (m : Int), .int .i64 (k : Int), .bool wb, .slice (some ⟨ba, oa, none⟩) xs.length ca, .slice (some ⟨bb, ob, none⟩) ys.length cb] 29) #[.slice (some ⟨b0, o0, none⟩) e.length e.length, .slice (some ⟨b1, o1, none⟩) x.length x.length, .slice (some ⟨b2, o2, none⟩) y.length y.length] 38
    replace X := X.alloc (.cells #[.slice (some ⟨b0, o0, none⟩) e.length e.length, .slice (some ⟨b1, o1, none⟩) x.length x.length, .slice (some ⟨b2, o2, none⟩) y.length y.length] 38)
    have Q := Blk.new2 w (.cells #[.int .i64 (m : Int), .int .i64 (k : Int), .bool wb, .slice (some ⟨ba, oa, none⟩) xs.length ca, .slice (some ⟨bb, ob, none⟩) ys.length cb] 29) (.cells #[.slice (some ⟨b0, o0, none⟩) e.length e.length, .slice (some ⟨b1, o1, none⟩) x.length x.length, .slice (some ⟨b2, o2, none⟩) y.length y.length] 38) #[.int .i64 fr, .int .i64 ct] 31
    replace X := X.alloc (.cells #[.int .i64 fr, .int .i64 ct] 31)
    replace Y := Y.alloc (.cells #[.int .i64 fr, .int .i64 ct] 31)
    have R := Blk.new3 w (.cells #[.int .i64 (m : Int), .int .i64 (k : Int), .bool wb, .slice (some ⟨ba, oa, none⟩) xs.length ca, .slice (some ⟨bb, ob, none⟩) ys.length cb] 29) (.cells #[.slice (some ⟨b0, o0, none⟩) e.length e.length, .slice (some ⟨b1, o1, none⟩) x.length x.length, .slice (some ⟨b2, o2, none⟩) y.length y.length] 38) (.cells #[.int .i64 fr, .int .i64 ct] 31) #[.slice none 0 0, .slice none 0 0, .slice none 0 0] 38
    replace X := X.alloc (.cells #[.slice none 0 0, .slice none 0 0, .slice none 0 0] 38)
    replace Y := Y.alloc (.cells #[.slice none 0 0, .slice none 0 0, .slice none 0 0] 38)
    replace Q := Q.alloc (.cells #[.slice none 0 0, .slice none 0 0, .slice none 0 0] 38)
    have HB : Hid (Below w.heap.size w ((((w.alloc (.cells #[.int .i64 (m : Int), .int .i64 (k : Int), .bool wb, .slice (some ⟨ba, oa, none⟩) xs.length ca, .slice (some ⟨bb, ob, none⟩) ys.length cb] 29)).alloc (.cells #[.slice (some ⟨b0, o0, none⟩) e.length e.length, .slice (some ⟨b1, o1, none⟩) x.length x.length, .slice (some ⟨b2, o2, none⟩) y.length y.length] 38)).alloc (.cells #[.int .i64 fr, .int .i64 ct] 31)).alloc (.cells #[.slice none 0 0, .slice none 0 0, .slice none 0 0] 38))) := Lib.hid (((((Below.refl w.heap.size w).alloc (by simp <;> omega) _).alloc (by simp <;> omega) _).alloc (by simp <;> omega) _).alloc (by simp <;> omega) _)
    go_enter Try.func49, Try.ntmps49
    go_upto_region 1 with (fail)
    generalize ((((w.alloc (.cells #[.int .i64 (m : Int), .int .i64 (k : Int), .bool wb, .slice (some ⟨ba, oa, none⟩) xs.length ca, .slice (some ⟨bb, ob, none⟩) ys.length cb] 29)).alloc (.cells #[.slice (some ⟨b0, o0, none⟩) e.length e.length, .slice (some ⟨b1, o1, none⟩) x.length x.length, .slice (some ⟨b2, o2, none⟩) y.length y.length] 38)).alloc (.cells #[.int .i64 fr, .int .i64 ct] 31)).alloc (.cells #[.slice none 0 0, .slice none 0 0, .slice none 0 0] 38)) = u1 at *
    obtain ⟨Xc, Xf⟩ := X.open
    obtain ⟨Yc, Yf⟩ := Y.open
    go_wp2_with fail
    refine (implIsField _ _ _ _ _ _ _ _ _ _ _ _ _ _ _ _ _ _ _ (ha.later HB.out) (hb.later HB.out) hx hy (h0.later HB.out) (h1.later HB.out) (h2.later HB.out) m0 m1 m2).mono ?_
    rintro r u2 ⟨rfl, q⟩
    clear Xc Xf
    clear Yc Yf
    replace X := X.later q
    replace Y := Y.later q
    replace Q := Q.later q
    replace R := R.later q
    replace HB := Lib.hid (HB.out.trans (q.mono HB.out.size))
    clear q
    rw [H_fb.out]
    obtain ⟨Xc, Xf⟩ := X.open
    obtain ⟨Qc, Qf⟩ := Q.open
    go_wp2_with fail
    refine (implIsStrip _ _ _ _ _ _ _ _ _ _ _ _ (ha.later HB.out) (hb.later HB.out) hx hy).mono ?_
    rintro r u3 ⟨rfl, q⟩
    clear Xc Xf
    clear Qc Qf
    replace X := X.later q
    replace Y := Y.later q
    replace Q := Q.later q
    replace R := R.later q
    replace HB := Lib.hid (HB.out.trans (q.mono HB.out.size))
    clear q
    rw [HW.out]
    obtain ⟨Rc, Rf⟩ := R.open
    go_wp2
    refine bodyPost_ret (v := .tuple #[.agg #[.slice none 0 0, .slice none 0 0, .slice none 0 0], .bool false]) (by simp [results, Try.results49, go_sem, Rc]) rfl ⟨none, none, none, 0, 0, 0, [], [], [], rfl, GotField.none (((HB.out.setCell (p := ⟨w.heap.size + 1 + 1 + 1, 0, none⟩) (by first | omega | (simp <;> omega)) _).setCell (p := ⟨w.heap.size + 1 + 1 + 1, 1, none⟩) (by first | omega | (simp <;> omega)) _).setCell (p := ⟨w.heap.size + 1 + 1 + 1, 2, none⟩) (by first | omega | (simp <;> omega)) _)⟩
  have HBT : Hid (cutB (m : Int) (k : Int) wb xs ys e x y fr ct = true) := Lib.hid (by rw [HB0.out, hwi])
  obtain ⟨hvv, hrr⟩ : validB (m : Int) (k : Int) xs ys = true ∧ stripB (k : Int) fr ct = true := by unfold isStripB at hwi; simpa using hwi
  have hmk : (m : Int) * (k : Int) = (n : Int) := by rw [HN.out]; simp
  obtain ⟨q, l, e1, e2, e3, l0_, hle, f0, f1, f3, e4, e5⟩ := cut_nums (wd := (m : Int)) (by omega) (by omega) (by omega) hmk hrr
  have hl256 : l ≤ 256 := by omega
  have HPLL : Hid (∀ C : Nat → Option Nat, pL (m : Int) fr ct C = (List.range l).map fun i => C (q + i)) := Lib.hid (fun C => by unfold pL; rw [e4, e5])
  rw [HPLL.out, HPLL.out, HPLL.out]
  have HIN : Hid (∀ i, i < l → wholeP fr ct m (q + i) = true) := Lib.hid (fun i hi => in_strip (by omega) f0 f3 e1 e3 hi)
  have HQ := Lib.hid e1; have HQM := Lib.hid e3; clear e1 e2 e3 e4 e5 hmk
  have HRT : Hid (runL (m : Int) (k : Int) wb xs ys e x y 1 = stT wb m k (nums xs) (nums ys) ⟨nums e, nums x, nums y⟩) := Lib.hid rfl
  rw [HRT.out]
  have HW := Lib.hid hwi; clear hwi hvv hrr
  have X := Blk.new w #[.int .i64 (m : Int), .int .i64 (k : Int), .bool wb, .slice (some ⟨ba, oa, none⟩) xs.length ca, .slice (some ⟨bb, ob, none⟩) ys.length cb] 29
  have Y := Blk.new1 w (.cells #[.int .i64 (m : Int), .int .i64 (k : Int), .bool wb, .slice (some ⟨ba, oa, none⟩) xs.length ca, .slice (some ⟨bb, ob, none⟩) ys.length cb] 29) #[.slice (some ⟨b0, o0, none⟩) e.length e.length, .slice (some ⟨b1, o1, none⟩) x.length x.length, .slice (some ⟨b2, o2, none⟩) y.length y.length] 38
  replace X := X.alloc (.cells #[.slice (some ⟨b0, o0, none⟩) e.length e.length, .slice (some ⟨b1, o1, none⟩) x.length x.length, .slice (some ⟨b2, o2, none⟩) y.length y.length] 38)
  have Q := Blk.new2 w (.cells #[.int .i64 (m : Int), .int .i64 (k : Int), .bool wb, .slice (some ⟨ba, oa, none⟩) xs.length ca, .slice (some ⟨bb, ob, none⟩) ys.length cb] 29) (.cells #[.slice (some ⟨b0, o0, none⟩) e.length e.length, .slice (some ⟨b1, o1, none⟩) x.length x.length, .slice (some ⟨b2, o2, none⟩) y.length y.length] 38) #[.int .i64 fr, .int .i64 ct] 31
  replace X := X.alloc (.cells #[.int .i64 fr, .int .i64 ct] 31)
  replace Y := Y.alloc (.cells #[.int .i64 fr, .int .i64 ct] 31)
  have R := Blk.new3 w (.cells #[.int .i64 (m : Int), .int .i64 (k : Int), .bool wb, .slice (some ⟨ba, oa, none⟩) xs.length ca, .slice (some ⟨bb, ob, none⟩) ys.length cb] 29) (.cells #[.slice (some ⟨b0, o0, none⟩) e.length e.length, .slice (some ⟨b1, o1, none⟩) x.length x.length, .slice (some ⟨b2, o2, none⟩) y.length y.length] 38) (.cells #[.int .i64 fr, .int .i64 ct] 31) #[.slice none 0 0, .slice none 0 0, .slice none 0 0] 38
  replace X := X.alloc (.cells #[.slice none 0 0, .slice none 0 0, .slice none 0 0] 38)
  replace Y := Y.alloc (.cells #[.slice none 0 0, .slice none 0 0, .slice none 0 0] 38)
  replace Q := Q.alloc (.cells #[.slice none 0 0, .slice none 0 0, .slice none 0 0] 38)
  have HB : Hid (Below w.heap.size w ((((w.alloc (.cells #[.int .i64 (m : Int), .int .i64 (k : Int), .bool wb, .slice (some ⟨ba, oa, none⟩) xs.length ca, .slice (some ⟨bb, ob, none⟩) ys.length cb] 29)).alloc (.cells #[.slice (some ⟨b0, o0, none⟩) e.length e.length, .slice (some ⟨b1, o1, none⟩) x.length x.length, .slice (some ⟨b2, o2, none⟩) y.length y.length] 38)).alloc (.cells #[.int .i64 fr, .int .i64 ct] 31)).alloc (.cells #[.slice none 0 0, .slice none 0 0, .slice none 0 0] 38))) := Lib.hid (((((Below.refl w.heap.size w).alloc (by simp <;> omega) _).alloc (by simp <;> omega) _).alloc (by simp <;> omega) _).alloc (by simp <;> omega) _)
  go_enter Try.func49, Try.ntmps49
  go_upto_region 1 with (fail)
  generalize ((((w.alloc (.cells #[.int .i64 (m : Int), .int .i64 (k : Int), .bool wb, .slice (some ⟨ba, oa, none⟩) xs.length ca, .slice (some ⟨bb, ob, none⟩) ys.length cb] 29)).alloc (.cells #[.slice (some ⟨b0, o0, none⟩) e.length e.length, .slice (some ⟨b1, o1, none⟩) x.length x.length, .slice (some ⟨b2, o2, none⟩) y.length y.length] 38)).alloc (.cells #[.int .i64 fr, .int .i64 ct] 31)).alloc (.cells #[.slice none 0 0, .slice none 0 0, .slice none 0 0] 38)) = u1 at *
  obtain ⟨Xc, Xf⟩ := X.open
  obtain ⟨Yc, Yf⟩ := Y.open
  go_wp2_with fail
  refine (implIsField _ _ _ _ _ _ _ _ _ _ _ _ _ _ _ _ _ _ _ (ha.later HB.out) (hb.later HB.out) hx hy (h0.later HB.out) (h1.later HB.out) (h2.later HB.out) m0 m1 m2).mono ?_
  rintro r u2 ⟨rfl, q⟩
  clear Xc Xf
  clear Yc Yf
  replace X := X.later q
  replace Y := Y.later q
  replace Q := Q.later q
  replace R := R.later q
  replace HB := Lib.hid (HB.out.trans (q.mono HB.out.size))
  clear q
  rw [H_fb.out]
  obtain ⟨Xc, Xf⟩ := X.open
  obtain ⟨Qc, Qf⟩ := Q.open
  go_wp2_with fail
  refine (implIsStrip _ _ _ _ _ _ _ _ _ _ _ _ (ha.later HB.out) (hb.later HB.out) hx hy).mono ?_
  rintro r u3 ⟨rfl, q⟩
  clear Xc Xf
  clear Qc Qf
  replace X := X.later q
  replace Y := Y.later q
  replace Q := Q.later q
  replace R := R.later q
  replace HB := Lib.hid (HB.out.trans (q.mono HB.out.size))
  clear q
  rw [HW.out]
  obtain ⟨Xc, Xf⟩ := X.open
  go_wp2_with fail
  refine (implShapeOf _ _ _ _ _ _ _ _ _ _).mono ?_
  rintro r u4 ⟨rfl, q⟩
  clear Xc Xf
  replace X := X.later q
  replace Y := Y.later q
  replace Q := Q.later q
  replace R := R.later q
  replace HB := Lib.hid (HB.out.trans (q.mono HB.out.size))
  clear q
  have SZZ : w.heap.size + 1 + 1 + 1 < u4.heap.size + 0 := Nat.lt_of_lt_of_le R.lt (Nat.le_add_right _ _)
  have Z := Blk.new u4 #[.int .i64 (m : Int), .int .i64 (k : Int), .bool wb] 80
  have q := below_new u4 (.cells #[.int .i64 (m : Int), .int .i64 (k : Int), .bool wb] 80)
  replace X := X.later q
  replace Y := Y.later q
  replace Q := Q.later q
  replace R := R.later q
  replace HB := Lib.hid (HB.out.trans (q.mono HB.out.size))
  clear q
  go_wp2_with fail
  generalize (u4.alloc (.cells #[.int .i64 (m : Int), .int .i64 (k : Int), .bool wb] 80)) = u5 at *
  obtain ⟨gz, hgz⟩ : ∃ z, z = u4.heap.size := ⟨_, rfl⟩
  rw [← hgz] at Z
  (try simp only [← hgz])
  clear hgz
  have HBU := HB.out; have zu := HBU.size; have zr := R.lt
  refine wp_region_noPanic ?_
  refine wp_region_plan (Grows u5) 13 [(0, true), (1, true), (2, true), (3, true), (5, true), (6, true), (7, true), (11, true), (4, false), (8, false), (9, false), (10, false), (12, false)] (by kernel_rfl) (by kernel_rfl) (fun _ _ _ _ _ h => h) (Grows.drew _) ?_
  (refine plan_load rfl rfl (⟨gz, 0, none⟩) (by kernel_rfl) (.agg #[.int .i64 (m : Int), .int .i64 (k : Int), .bool wb]) (fun w' hw' => run_loadVar_row w' _ _ _ _ _ _ (Z.later hw') Try.underlying80 rfl (by kernel_rfl)) ?_; simp only [Act.put, List.setIfInBounds_toArray, List.set_cons_zero, List.set_cons_succ, List.getElem_toArray, List.getElem_cons_zero, List.getElem_cons_succ])
  (refine plan_load rfl rfl (⟨gz, 0, none⟩) (by kernel_rfl) (.agg #[.int .i64 (m : Int), .int .i64 (k : Int), .bool wb]) (fun w' hw' => run_loadVar_row w' _ _ _ _ _ _ (Z.later hw') Try.underlying80 rfl (by kernel_rfl)) ?_; simp only [Act.put, List.setIfInBounds_toArray, List.set_cons_zero, List.set_cons_succ, List.getElem_toArray, List.getElem_cons_zero, List.getElem_cons_succ])
  (refine plan_load rfl rfl (⟨gz, 0, none⟩) (by kernel_rfl) (.agg #[.int .i64 (m : Int), .int .i64 (k : Int), .bool wb]) (fun w' hw' => run_loadVar_row w' _ _ _ _ _ _ (Z.later hw') Try.underlying80 rfl (by kernel_rfl)) ?_; simp only [Act.put, List.setIfInBounds_toArray, List.set_cons_zero, List.set_cons_succ, List.getElem_toArray, List.getElem_cons_zero, List.getElem_cons_succ])
  (refine plan_load rfl rfl (⟨w.heap.size + 1, 0, none⟩) (by kernel_rfl) (.agg #[.slice (some ⟨b0, o0, none⟩) e.length e.length, .slice (some ⟨b1, o1, none⟩) x.length x.length, .slice (some ⟨b2, o2, none⟩) y.length y.length]) (fun w' hw' => run_loadVar_row w' _ _ _ _ _ _ (Y.later hw') Try.underlying38 rfl (by kernel_rfl)) ?_; simp only [Act.put, List.setIfInBounds_toArray, List.set_cons_zero, List.set_cons_succ, List.getElem_toArray, List.getElem_cons_zero, List.getElem_cons_succ])
  (refine plan_load rfl rfl (⟨w.heap.size, 0, none⟩) (by kernel_rfl) (.agg #[.int .i64 (m : Int), .int .i64 (k : Int), .bool wb, .slice (some ⟨ba, oa, none⟩) xs.length ca, .slice (some ⟨bb, ob, none⟩) ys.length cb]) (fun w' hw' => run_loadVar_row w' _ _ _ _ _ _ (X.later hw') Try.underlying29 rfl (by kernel_rfl)) ?_; simp only [Act.put, List.setIfInBounds_toArray, List.set_cons_zero, List.set_cons_succ, List.getElem_toArray, List.getElem_cons_zero, List.getElem_cons_succ])
  (refine plan_load rfl rfl (⟨gz, 0, none⟩) (by kernel_rfl) (.agg #[.int .i64 (m : Int), .int .i64 (k : Int), .bool wb]) (fun w' hw' => run_loadVar_row w' _ _ _ _ _ _ (Z.later hw') Try.underlying80 rfl (by kernel_rfl)) ?_; simp only [Act.put, List.setIfInBounds_toArray, List.set_cons_zero, List.set_cons_succ, List.getElem_toArray, List.getElem_cons_zero, List.getElem_cons_succ])
  (refine plan_load rfl rfl (⟨w.heap.size + 1 + 1, 0, none⟩) (by kernel_rfl) (.agg #[.int .i64 fr, .int .i64 ct]) (fun w' hw' => run_loadVar_row w' _ _ _ _ _ _ (Q.later hw') Try.underlying31 rfl (by kernel_rfl)) ?_; simp only [Act.put, List.setIfInBounds_toArray, List.set_cons_zero, List.set_cons_succ, List.getElem_toArray, List.getElem_cons_zero, List.getElem_cons_succ])
  (refine plan_load rfl rfl (⟨w.heap.size + 1 + 1, 0, none⟩) (by kernel_rfl) (.agg #[.int .i64 fr, .int .i64 ct]) (fun w' hw' => run_loadVar_row w' _ _ _ _ _ _ (Q.later hw') Try.underlying31 rfl (by kernel_rfl)) ?_; simp only [Act.put, List.setIfInBounds_toArray, List.set_cons_zero, List.set_cons_succ, List.getElem_toArray, List.getElem_cons_zero, List.getElem_cons_succ])
  have v0_ := Grows.drew u5
  generalize u5.drew = v0 at *
  have ee0 := h0.later (HBU.trans (Below.mono v0_ zu))
  have ee1 := h1.later (HBU.trans (Below.mono v0_ zu))
  have ee2 := h2.later (HBU.trans (Below.mono v0_ zu))
  refine plan_call rfl rfl 91 #[] #[] rfl _ Try.func91 (by kernel_rfl) (by kernel_rfl) [.agg #[.int .i64 (m : Int), .int .i64 (k : Int), .bool wb], .agg #[.slice (some ⟨b0, o0, none⟩) e.length e.length, .slice (some ⟨b1, o1, none⟩) x.length x.length, .slice (some ⟨b2, o2, none⟩) y.length y.length]] (by kernel_rfl) #[.agg #[.int .i64 (m : Int), .int .i64 (k : Int), .bool wb], .agg #[.slice (some ⟨b0, o0, none⟩) e.length e.length, .slice (some ⟨b1, o1, none⟩) x.length x.length, .slice (some ⟨b2, o2, none⟩) y.length y.length]] (by simp) _ (implGridOf m k wb _ _ _ e x y v0 ee0 ee1 ee2 (L0.out.trans HN.out) (L1.out.trans HN.out) (L2.out.trans HN.out) s1 s2 s3 s4) ?_
  rintro e v1 ⟨cs, rfl, gf, c1_⟩
  refine ⟨_, rfl, v0_.next c1_, ?_⟩
  simp only [Act.put, List.setIfInBounds_toArray, List.set_cons_zero, List.set_cons_succ, List.getElem_toArray, List.getElem_cons_zero, List.getElem_cons_succ]
  have v1_ := v0_.next c1_
  refine plan_call rfl rfl 93 #[] #[] rfl _ Try.func93 (by kernel_rfl) (by kernel_rfl) [.agg #[.int .i64 (m : Int), .int .i64 (k : Int), .bool wb], .agg #[.int .i64 fr, .int .i64 ct]] (by kernel_rfl) #[.agg #[.int .i64 (m : Int), .int .i64 (k : Int), .bool wb], .agg #[.int .i64 fr, .int .i64 ct]] (by simp) _ (implTaskOf m k n fr ct wb v1 s1 s2 s3 s4 HN f0 (by omega) (by omega) (by omega)) ?_
  rintro e v2 ⟨ah, aw, ch, cw, rfl, RJ, RK, c2_⟩
  refine ⟨_, rfl, v1_.next c2_, ?_⟩
  simp only [Act.put, List.setIfInBounds_toArray, List.set_cons_zero, List.set_cons_succ, List.getElem_toArray, List.getElem_cons_zero, List.getElem_cons_succ]
  have v2_ := v1_.next c2_
  have era := ha.later (HBU.trans (Below.mono v2_ zu)); have erb := hb.later (HBU.trans (Below.mono v2_ zu))
  refine plan_call rfl rfl 92 #[] #[] rfl _ Try.func92 (by kernel_rfl) (by kernel_rfl) [.agg cs, .agg #[.int .i64 (m : Int), .int .i64 (k : Int), .bool wb, .slice (some ⟨ba, oa, none⟩) xs.length ca, .slice (some ⟨bb, ob, none⟩) ys.length cb], .agg #[.slice ah (pick n (halfP fr ct wb m k)).length ch, .slice aw (pick n (wholeP fr ct m)).length cw]] (by kernel_rfl) #[.agg cs, .agg #[.int .i64 (m : Int), .int .i64 (k : Int), .bool wb, .slice (some ⟨ba, oa, none⟩) xs.length ca, .slice (some ⟨bb, ob, none⟩) ys.length cb], .agg #[.slice ah (pick n (halfP fr ct wb m k)).length ch, .slice aw (pick n (wholeP fr ct m)).length cw]] (by simp) _ (implSteppedIn m k n wb _ _ ca cb xs ys cs _ _ _ _ _ _ (pick n (halfP fr ct wb m k)) (pick n (wholeP fr ct m)) ah aw ch cw v2 RJ (fun j hj => pick_lt hj) (pick_nodup _ _) (Nat.le_trans (pick_len _ _) n256) RK (fun j hj => pick_lt hj) (pick_nodup _ _) (Nat.le_trans (pick_len _ _) n256) era erb LA.out LB.out gf (ag_list (lag_self L0.out q0)) (ag_list (lag_self L1.out q1)) (ag_list (lag_self L2.out q2)) s1 s2 s3 s4 HN) ?_
  rintro e v3 ⟨cs2, ea, xa, ya, rfl, gf2, ae, ax, ay, c3_⟩
  refine ⟨_, rfl, v2_.next c3_, ?_⟩
  simp only [Act.put, List.setIfInBounds_toArray, List.set_cons_zero, List.set_cons_succ, List.getElem_toArray, List.getElem_cons_zero, List.getElem_cons_succ]
  have v3_ := v2_.next c3_
  refine plan_call rfl rfl 90 #[] #[] rfl _ Try.func90 (by kernel_rfl) (by kernel_rfl) [.agg #[.int .i64 (m : Int), .int .i64 (k : Int), .bool wb], .agg cs2] (by kernel_rfl) #[.agg #[.int .i64 (m : Int), .int .i64 (k : Int), .bool wb], .agg cs2] (by simp) _ (implFieldOfK m k n wb cs2 ea xa ya v3 gf2 s1 s2 s3 s4 HN) ?_
  rintro e v4 ⟨g0, g1, g2, k0, k1, k2, rfl, nf, kc0, kc1, kc2⟩
  refine ⟨_, rfl, v3_.next nf.below, ?_⟩
  simp only [Act.put, List.setIfInBounds_toArray, List.set_cons_zero, List.set_cons_succ, List.getElem_toArray, List.getElem_cons_zero, List.getElem_cons_succ]
  have v4_ := v3_.next nf.below
  refine plan_call rfl rfl 63 #[] #[] rfl _ Try.func63 (by kernel_rfl) (by kernel_rfl) [.agg #[.int .i64 (m : Int), .int .i64 (k : Int), .bool wb], .agg #[.slice (some ⟨g0, 0, none⟩) n k0, .slice (some ⟨g1, 0, none⟩) n k1, .slice (some ⟨g2, 0, none⟩) n k2], .agg #[.int .i64 fr, .int .i64 ct]] (by kernel_rfl) #[.agg #[.int .i64 (m : Int), .int .i64 (k : Int), .bool wb], .agg #[.slice (some ⟨g0, 0, none⟩) n k0, .slice (some ⟨g1, 0, none⟩) n k1, .slice (some ⟨g2, 0, none⟩) n k2], .agg #[.int .i64 fr, .int .i64 ct]] (by simp) _ (implCutField (m : Int) (k : Int) fr ct wb g0 g1 g2 0 0 0 k0 k1 k2 n q l (firsts ea n) (firsts xa n) (firsts ya n) v4 nf.o0.row nf.o1.row nf.o2.row (firsts_length _ _) (firsts_length _ _) (firsts_length _ _) n256 kc0 kc1 kc2 HQ HQM l0_ hle f0 f1 f3) ?_
  rintro e v5 ⟨d0, d1, d2, j0, j1, j2, rfl, oo0, oo1, oo2, g01, g12, bb⟩
  refine ⟨_, rfl, v4_.next bb, ?_⟩
  simp only [Act.put, List.setIfInBounds_toArray, List.set_cons_zero, List.set_cons_succ, List.getElem_toArray, List.getElem_cons_zero, List.getElem_cons_succ]
  have v5_ := v4_.next bb
  change wpList _ _ _ _ _ _
  simp only [List.drop_succ_cons, List.drop_zero]
  have HAT : Hid (∀ i, i < l → mixd (fun i => decide (i ∈ pick n (halfP fr ct wb m k))) (halfX wb m k (nums e) (nums x)) (nums x) (q + i) = halfX wb m k (nums e) (nums x) (q + i) ∧ mixd (fun i => decide (i ∈ pick n (halfP fr ct wb m k))) (halfY wb m k (nums e) (nums y)) (nums y) (q + i) = halfY wb m k (nums e) (nums y) (q + i) ∧ mixd (fun i => decide (i ∈ pick n (wholeP fr ct m))) (restE wb m k (nums xs) (nums ys) (nums e) (mixd (fun i => decide (i ∈ pick n (halfP fr ct wb m k))) (halfX wb m k (nums e) (nums x)) (nums x)) (mixd (fun i => decide (i ∈ pick n (halfP fr ct wb m k))) (halfY wb m k (nums e) (nums y)) (nums y))) (nums e) (q + i) = restE wb m k (nums xs) (nums ys) (nums e) (halfX wb m k (nums e) (nums x)) (halfY wb m k (nums e) (nums y)) (q + i)) := Lib.hid (fun i hi => strip_at s1 s3 HN.out (by omega) (HIN.out i hi) (fun j hj => pick_mem hj) (fun j hj => pick_mem hj))
  have HI0 := Lib.hid (is_part (q := q) (l := l) (D := (stT wb m k (nums xs) (nums ys) ⟨nums e, nums x, nums y⟩).e) (lag_firsts ae) hle hl256 (fun i hi => (HAT.out i hi).2.2))
  have HI1 := Lib.hid (is_part (q := q) (l := l) (D := (stT wb m k (nums xs) (nums ys) ⟨nums e, nums x, nums y⟩).x) (lag_firsts ax) hle hl256 (fun i hi => (HAT.out i hi).1))
  have HI2 := Lib.hid (is_part (q := q) (l := l) (D := (stT wb m k (nums xs) (nums ys) ⟨nums e, nums x, nums y⟩).y) (lag_firsts ay) hle hl256 (fun i hi => (HAT.out i hi).2.1))
  have sz1 : u5.heap.size ≤ v4.heap.size := Below.size v4_
  have y0 := oo0.bound d0 rfl
  have O0 := Lib.hid (oo0.lower (show w.heap.size ≤ v4.heap.size by omega)); clear oo0
  have O1 := Lib.hid (oo1.lower (show w.heap.size ≤ v4.heap.size by omega)); clear oo1
  have O2 := Lib.hid (oo2.lower (show w.heap.size ≤ v4.heap.size by omega)); clear oo2
  have HPL0 : Hid ((placed (fun i => q + i) l (firsts ea n)).length = l) := Lib.hid (placed_length _ _ _)
  have HPL1 : Hid ((placed (fun i => q + i) l (firsts xa n)).length = l) := Lib.hid (placed_length _ _ _)
  have HPL2 : Hid ((placed (fun i => q + i) l (firsts ya n)).length = l) := Lib.hid (placed_length _ _ _)
  have ne01 : d0 ≠ d1 := by omega
  have ne02 : d0 ≠ d2 := by omega
  have ne12 : d1 ≠ d2 := by omega
  have HB4 := Lib.hid (HBU.trans (Below.mono v5_ zu))
  have R4 := R.later v5_
  clear ee0 ee1 ee2 era erb bb c1_ c2_ c3_ nf v0_ v1_ v2_ v3_ v4_ v5_ X R Y Q Z HB ae ax ay gf gf2 RJ RK HAT
  generalize placed (fun i => q + i) l (firsts ea n) = p0 at *
  generalize placed (fun i => q + i) l (firsts xa n) = p1 at *
  generalize placed (fun i => q + i) l (firsts ya n) = p2 at *
  obtain ⟨Rc, Rf⟩ := R4.open
  go_wp2_with fail
  refine NoPanic.normal ?_
  go_wp2
  refine bodyPost_ret (v := .tuple #[.agg #[.slice (some ⟨d0, 0, none⟩) l j0, .slice (some ⟨d1, 0, none⟩) l j1, .slice (some ⟨d2, 0, none⟩) l j2], .bool true]) (by simp [results, Try.results49, go_sem, Rc]) rfl (gaveO_yes HBT.out HPL0.out HPL1.out HPL2.out ⟨(((O0.out.set (p := ⟨w.heap.size + 1 + 1 + 1, 0, none⟩) (ne_block (h := w.heap.size + 1 + 1 + 1) (by omega)) _).set (p := ⟨w.heap.size + 1 + 1 + 1, 1, none⟩) (ne_block (h := w.heap.size + 1 + 1 + 1) (by omega)) _).set (p := ⟨w.heap.size + 1 + 1 + 1, 2, none⟩) (ne_block (h := w.heap.size + 1 + 1 + 1) (by omega)) _), (((O1.out.set (p := ⟨w.heap.size + 1 + 1 + 1, 0, none⟩) (ne_block (h := w.heap.size + 1 + 1 + 1) (by omega)) _).set (p := ⟨w.heap.size + 1 + 1 + 1, 1, none⟩) (ne_block (h := w.heap.size + 1 + 1 + 1) (by omega)) _).set (p := ⟨w.heap.size + 1 + 1 + 1, 2, none⟩) (ne_block (h := w.heap.size + 1 + 1 + 1) (by omega)) _), (((O2.out.set (p := ⟨w.heap.size + 1 + 1 + 1, 0, none⟩) (ne_block (h := w.heap.size + 1 + 1 + 1) (by omega)) _).set (p := ⟨w.heap.size + 1 + 1 + 1, 1, none⟩) (ne_block (h := w.heap.size + 1 + 1 + 1) (by omega)) _).set (p := ⟨w.heap.size + 1 + 1 + 1, 2, none⟩) (ne_block (h := w.heap.size + 1 + 1 + 1) (by omega)) _), apart_ne ne01, apart_ne ne02, apart_ne ne12, HI0.out, HI1.out, HI2.out, (((HB4.out.setCell (p := ⟨w.heap.size + 1 + 1 + 1, 0, none⟩) (by first | omega | (simp <;> omega)) _).setCell (p := ⟨w.heap.size + 1 + 1 + 1, 1, none⟩) (by first | omega | (simp <;> omega)) _).setCell (p := ⟨w.heap.size + 1 + 1 + 1, 2, none⟩) (by first | omega | (simp <;> omega)) _)⟩)

set_option maxHeartbeats 16000000 in
set_option maxRecDepth 100000 in
theorem specStepStripL (wd hi : Int) (wb : Bool) (a b : Option Addr) (ca cb : Nat) (xs ys : List Nat) (a0 a1 a2 : Option Addr) (c0 c1 c2 : Nat) (e x y : List Nat) (fr ct : Int) (w : World) (ha : RowV w a (fvals xs)) (hb : RowV w b (fvals ys)) (qa : ∀ z ∈ xs, z < 2 ^ 32) (qb : ∀ z ∈ ys, z < 2 ^ 32) (hx : xs.length ≤ maxLen) (hy : ys.length ≤ maxLen) (h0 : RowV w a0 (fvals e)) (h1 : RowV w a1 (fvals x)) (h2 : RowV w a2 (fvals y)) (q0 : ∀ z ∈ e, z < 2 ^ 32) (q1 : ∀ z ∈ x, z < 2 ^ 32) (q2 : ∀ z ∈ y, z < 2 ^ 32) (m0 : e.length ≤ maxLen) (m1 : x.length ≤ maxLen) (m2 : y.length ≤ maxLen) (hc0 : c0 = e.length := by rfl) (hc1 : c1 = x.length := by rfl) (hc2 : c2 = y.length := by rfl) :
    Calls Try.prog 48 #[.agg #[.int .i64 wd, .int .i64 hi, .bool wb, .slice a xs.length ca, .slice b ys.length cb], .agg #[.slice a0 e.length c0, .slice a1 x.length c1, .slice a2 y.length c2], .agg #[.int .i64 fr, .int .i64 ct]] w (OwnO w (cutB wd hi wb xs ys e x y fr ct) (pL wd fr ct (runL wd hi wb xs ys e x y 1).e) (pL wd fr ct (runL wd hi wb xs ys e x y 1).x) (pL wd fr ct (runL wd hi wb xs ys e x y 1).y)) := by
  subst hc0; subst hc1; subst hc2
  rcases hfv : fieldB wd hi wb xs ys e x y with _ | _
  · skip
    refine Calls.mono ?_ (fun e w9 h9 => ownO_no (by unfold cutB; rw [hfv]; rfl) h9)
    have H_fb := Lib.hid hfv; clear hfv
    have X := Blk.new w #[.int .i64 wd, .int .i64 hi, .bool wb, .slice a xs.length ca, .slice b ys.length cb] 29
    have Y := Blk.new1 w (.cells #[.int .i64 wd, .int .i64 hi, .bool wb, .slice a xs.length ca, .slice b ys.length cb] 29) #[.slice a0 e.length e.length, .slice a1 x.length x.length, .slice a2 y.length y.length] 38
    replace X := X.alloc (.cells #[.slice a0 e.length e.length, .slice a1 x.length x.length, .slice a2 y.length y.length] 38)
    have Q := Blk.new2 w (.cells #[.int .i64 wd, .int .i64 hi, .bool wb, .slice a xs.length ca, .slice b ys.length cb] 29) (.cells #[.slice a0 e.length e.length, .slice a1 x.length x.length, .slice a2 y.length y.length] 38) #[.int .i64 fr, .int .i64 ct] 31
    replace X := X.alloc (.cells #[.int .i64 fr, .int .i64 ct] 31)
    replace Y := Y.alloc (.cells #[.int .i64 fr, .int .i64 ct] 31)
    have R := Blk.new3 w (.cells #[.int .i64 wd, .int .i64 hi, .bool wb, .slice a xs.length ca, .slice b ys.length cb] 29) (.cells #[.slice a0 e.length e.length, .slice a1 x.length x.length, .slice a2 y.length y.length] 38) (.cells #[.int .i64 fr, .int .i64 ct] 31) #[.slice none 0 0, .slice none 0 0, .slice none 0 0] 38
    replace X := X.alloc (.cells #[.slice none 0 0, .slice none 0 0, .slice none 0 0] 38)
    replace Y := Y.alloc (.cells #[.slice none 0 0, .slice none 0 0, .slice none 0 0] 38)
    replace Q := Q.alloc (.cells #[.slice none 0 0, .slice none 0 0, .slice none 0 0] 38)
    have HB : Hid (Below w.heap.size w ((((w.alloc (.cells #[.int .i64 wd, .int .i64 hi, .bool wb, .slice a xs.length ca, .slice b ys.length cb] 29)).alloc (.cells #[.slice a0 e.length e.length, .slice a1 x.length x.length, .slice a2 y.length y.length] 38)).alloc (.cells #[.int .i64 fr, .int .i64 ct] 31)).alloc (.cells #[.slice none 0 0, .slice none 0 0, .slice none 0 0] 38))) := Lib.hid (((((Below.refl w.heap.size w).alloc (by simp <;> omega) _).alloc (by simp <;> omega) _).alloc (by simp <;> omega) _).alloc (by simp <;> omega) _)
    go_enter Try.func48, Try.ntmps48
    go_wp2_with fail
    generalize ((((w.alloc (.cells #[.int .i64 wd, .int .i64 hi, .bool wb, .slice a xs.length ca, .slice b ys.length cb] 29)).alloc (.cells #[.slice a0 e.length e.length, .slice a1 x.length x.length, .slice a2 y.length y.length] 38)).alloc (.cells #[.int .i64 fr, .int .i64 ct] 31)).alloc (.cells #[.slice none 0 0, .slice none 0 0, .slice none 0 0] 38)) = u1 at *
    refine (specBoth _ _ _ _ _ _ _ _ _ _ _ _ _ _ _ _ _ _ _ _ _ X Y (ha.later HB.out) (hb.later HB.out) hx hy (h0.later HB.out) (h1.later HB.out) (h2.later HB.out) m0 m1 m2).mono ?_
    rintro r u2 ⟨rfl, nq, hw⟩
    have q_ : Below u1.heap.size u1 u2 := by rw [hw]; exact below_drewN (Below.refl _ _) _
    clear hw
    replace X := X.later q_
    replace Y := Y.later q_
    replace Q := Q.later q_
    replace R := R.later q_
    replace HB := Lib.hid (HB.out.trans (q_.mono HB.out.size))
    clear q_
    rw [H_fb.out]
    obtain ⟨Rc, Rf⟩ := R.open
    go_wp2
    refine bodyPost_ret (v := .tuple #[.agg #[.slice none 0 0, .slice none 0 0, .slice none 0 0], .bool false]) (by simp [results, Try.results48, go_sem, Rc]) rfl ⟨none, none, none, 0, 0, 0, [], [], [], rfl, OwnField.none (((HB.out.setCell (p := ⟨w.heap.size + 1 + 1 + 1, 0, none⟩) (by first | omega | (simp <;> omega)) _).setCell (p := ⟨w.heap.size + 1 + 1 + 1, 1, none⟩) (by first | omega | (simp <;> omega)) _).setCell (p := ⟨w.heap.size + 1 + 1 + 1, 2, none⟩) (by first | omega | (simp <;> omega)) _)⟩
  have hp1 := (field_parts hfv).1
  obtain ⟨m, k, n, rfl, rfl, hn, s1, s2, s3, s4, la, lb, l0, l1, l2, np, n256⟩ := field_nat hfv
  obtain ⟨b0, o0, rfl⟩ := row_at h0 (show 0 < e.length by omega)
  obtain ⟨b1, o1, rfl⟩ := row_at h1 (show 0 < x.length by omega)
  obtain ⟨b2, o2, rfl⟩ := row_at h2 (show 0 < y.length by omega)
  obtain ⟨ba, oa, rfl⟩ := row_at ha (show 0 < xs.length by omega)
  obtain ⟨bb, ob, rfl⟩ := row_at hb (show 0 < ys.length by omega)
  have HN := Lib.hid hn; have LA := Lib.hid la; have LB := Lib.hid lb; have L0 := Lib.hid l0; have L1 := Lib.hid l1; have L2 := Lib.hid l2; clear hn la lb l0 l1 l2
  have HB0 : Hid (cutB (m : Int) (k : Int) wb xs ys e x y fr ct = stripB (k : Int) fr ct) := Lib.hid (by unfold cutB isStripB; rw [hfv, hp1]; rfl)
  have H_fb := Lib.hid hfv; clear hfv hp1
  rcases hrr : stripB (k : Int) fr ct with _ | _
  · skip
    refine Calls.mono ?_ (fun e w9 h9 => ownO_no (by rw [HB0.out]; exact hrr) h9)
    have HRB := Lib.hid hrr; clear hrr
    have X := Blk.new w #[.int .i64 (m : Int), .int .i64 (k : Int), .bool wb, .slice (some ⟨ba, oa, none⟩) xs.length ca, .slice (some ⟨bb, ob, none⟩) ys.length cb] 29
    have Y := Blk.new1 w (.cells #[.int .i64 (m : Int), .int .i64 (k : Int), .bool wb, .slice (some ⟨ba, oa, none⟩) xs.length ca, .slice (some ⟨bb, ob, none⟩) ys.length cb] 29) #[.slice (some ⟨b0, o0, none⟩) e.length e.length, .slice (some ⟨b1, o1, none⟩) x.length x.length, .slice (some ⟨b2, o2, none⟩) y.length y.length] 38
    replace X := X.alloc (.cells #[.slice (some ⟨b0, o0, none⟩) e.length e.length, .slice (some ⟨b1, o1, none⟩) x.length x.length, .slice (some ⟨b2, o2, none⟩) y.length y.length] 38)
    have Q := Blk.new2 w (.cells #[.int .i64 (m : Int), .int .i64 (k : Int), .bool wb, .slice (some ⟨ba, oa, none⟩) xs.length ca, .slice (some ⟨bb, ob, none⟩) ys.length cb] 29) (.cells #[.slice (some ⟨b0, o0, none⟩) e.length e.length, .slice (some ⟨b1, o1, none⟩) x.length x.length, .slice (some ⟨b2, o2, none⟩) y.length y.length] 38) #[.int .i64 fr, .int .i64 ct] 31
    replace X := X.alloc (.cells #[.int .i64 fr, .int .i64 ct] 31)
    replace Y := Y.alloc (.cells #[.int .i64 fr, .int .i64 ct] 31)
    have R := Blk.new3 w (.cells #[.int .i64 (m : Int), .int .i64 (k : Int), .bool wb, .slice (some ⟨ba, oa, none⟩) xs.length ca, .slice (some ⟨bb, ob, none⟩) ys.length cb] 29) (.cells #[.slice (some ⟨b0, o0, none⟩) e.length e.length, .slice (some ⟨b1, o1, none⟩) x.length x.length, .slice (some ⟨b2, o2, none⟩) y.length y.length] 38) (.cells #[.int .i64 fr, .int .i64 ct] 31) #[.slice none 0 0, .slice none 0 0, .slice none 0 0] 38
    replace X := X.alloc (.cells #[.slice none 0 0, .slice none 0 0, .slice none 0 0] 38)
    replace Y := Y.alloc (.cells #[.slice none 0 0, .slice none 0 0, .slice none 0 0] 38)
    replace Q := Q.alloc (.cells #[.slice none 0 0, .slice none 0 0, .slice none 0 0] 38)
    have HB : Hid (Below w.heap.size w ((((w.alloc (.cells #[.int .i64 (m : Int), .int .i64 (k : Int), .bool wb, .slice (some ⟨ba, oa, none⟩) xs.length ca, .slice (some ⟨bb, ob, none⟩) ys.length cb] 29)).alloc (.cells #[.slice (some ⟨b0, o0, none⟩) e.length e.length, .slice (some ⟨b1, o1, none⟩) x.length x.length, .slice (some ⟨b2, o2, none⟩) y.length y.length] 38)).alloc (.cells #[.int .i64 fr, .int .i64 ct] 31)).alloc (.cells #[.slice none 0 0, .slice none 0 0, .slice none 0 0] 38))) := Lib.hid (((((Below.refl w.heap.size w).alloc (by simp <;> omega) _).alloc (by simp <;> omega) _).alloc (by simp <;> omega) _).alloc (by simp <;> omega) _)
    go_enter Try.func48, Try.ntmps48
    go_wp2_with fail
    generalize ((((w.alloc (.cells #[.int .i64 (m : Int), .int .i64 (k : Int), .bool wb, .slice (some ⟨ba, oa, none⟩) xs.length ca, .slice (some ⟨bb, ob, none⟩) ys.length cb] 29)).alloc (.cells #[.slice (some ⟨b0, o0, none⟩) e.length e.length, .slice (some ⟨b1, o1, none⟩) x.length x.length, .slice (some ⟨b2, o2, none⟩) y.length y.length] 38)).alloc (.cells #[.int .i64 fr, .int .i64 ct] 31)).alloc (.cells #[.slice none 0 0, .slice none 0 0, .slice none 0 0] 38)) = u1 at *
    refine (specBoth _ _ _ _ _ _ _ _ _ _ _ _ _ _ _ _ _ _ _ _ _ X Y (ha.later HB.out) (hb.later HB.out) hx hy (h0.later HB.out) (h1.later HB.out) (h2.later HB.out) m0 m1 m2).mono ?_
    rintro r u2 ⟨rfl, nq, hw⟩
    have q_ : Below u1.heap.size u1 u2 := by rw [hw]; exact below_drewN (Below.refl _ _) _
    clear hw
    replace X := X.later q_
    replace Y := Y.later q_
    replace Q := Q.later q_
    replace R := R.later q_
    replace HB := Lib.hid (HB.out.trans (q_.mono HB.out.size))
    clear q_
    rw [H_fb.out]
    go_wp2_with fail
    refine (specL07Is _ _ (m : Int) (k : Int) wb _ _ fr ct _ X Q (by omega) (by omega) (by omega) (by omega)).mono ?_
    rintro r u3 ⟨rfl, nq, hw⟩
    have q_ : Below u2.heap.size u2 u3 := by rw [hw]; exact below_drewN (Below.refl _ _) _
    clear hw
    replace X := X.later q_
    replace Y := Y.later q_
    replace Q := Q.later q_
    replace R := R.later q_
    replace HB := Lib.hid (HB.out.trans (q_.mono HB.out.size))
    clear q_
    rw [HRB.out]
    obtain ⟨Rc, Rf⟩ := R.open
    go_wp2
    refine bodyPost_ret (v := .tuple #[.agg #[.slice none 0 0, .slice none 0 0, .slice none 0 0], .bool false]) (by simp [results, Try.results48, go_sem, Rc]) rfl ⟨none, none, none, 0, 0, 0, [], [], [], rfl, OwnField.none (((HB.out.setCell (p := ⟨w.heap.size + 1 + 1 + 1, 0, none⟩) (by first | omega | (simp <;> omega)) _).setCell (p := ⟨w.heap.size + 1 + 1 + 1, 1, none⟩) (by first | omega | (simp <;> omega)) _).setCell (p := ⟨w.heap.size + 1 + 1 + 1, 2, none⟩) (by first | omega | (simp <;> omega)) _)⟩
  have HBT : Hid (cutB (m : Int) (k : Int) wb xs ys e x y fr ct = true) := Lib.hid (by rw [HB0.out]; exact hrr)
  have hmk : (m : Int) * (k : Int) = (n : Int) := by rw [HN.out]; simp
  obtain ⟨q, l, e1, e2, e3, l0_, hle, f0, f1, f3, e4, e5⟩ := cut_nums (wd := (m : Int)) (by omega) (by omega) (by omega) hmk hrr
  have hl256 : l ≤ 256 := by omega
  have HPLL : Hid (∀ C : Nat → Option Nat, pL (m : Int) fr ct C = (List.range l).map fun i => C (q + i)) := Lib.hid (fun C => by unfold pL; rw [e4, e5])
  rw [HPLL.out, HPLL.out, HPLL.out]
  have HIN : Hid (∀ i, i < l → wholeP fr ct m (q + i) = true) := Lib.hid (fun i hi => in_strip (by omega) f0 f3 e1 e3 hi)
  have HQ := Lib.hid e1; have HQM := Lib.hid e3; clear e1 e2 e3 e4 e5 hmk
  have HRT : Hid (runL (m : Int) (k : Int) wb xs ys e x y 1 = stT wb m k (nums xs) (nums ys) ⟨nums e, nums x, nums y⟩) := Lib.hid rfl
  rw [HRT.out]
  have HRB := Lib.hid hrr; clear hrr
  have X := Blk.new w #[.int .i64 (m : Int), .int .i64 (k : Int), .bool wb, .slice (some ⟨ba, oa, none⟩) xs.length ca, .slice (some ⟨bb, ob, none⟩) ys.length cb] 29
  have Y := Blk.new1 w (.cells #[.int .i64 (m : Int), .int .i64 (k : Int), .bool wb, .slice (some ⟨ba, oa, none⟩) xs.length ca, .slice (some ⟨bb, ob, none⟩) ys.length cb] 29) #[.slice (some ⟨b0, o0, none⟩) e.length e.length, .slice (some ⟨b1, o1, none⟩) x.length x.length, .slice (some ⟨b2, o2, none⟩) y.length y.length] 38
  replace X := X.alloc (.cells #[.slice (some ⟨b0, o0, none⟩) e.length e.length, .slice (some ⟨b1, o1, none⟩) x.length x.length, .slice (some ⟨b2, o2, none⟩) y.length y.length] 38)
  have Q := Blk.new2 w (.cells #[.int .i64 (m : Int), .int .i64 (k : Int), .bool wb, .slice (some ⟨ba, oa, none⟩) xs.length ca, .slice (some ⟨bb, ob, none⟩) ys.length cb] 29) (.cells #[.slice (some ⟨b0, o0, none⟩) e.length e.length, .slice (some ⟨b1, o1, none⟩) x.length x.length, .slice (some ⟨b2, o2, none⟩) y.length y.length] 38) #[.int .i64 fr, .int .i64 ct] 31
  replace X := X.alloc (.cells #[.int .i64 fr, .int .i64 ct] 31)
  replace Y := Y.alloc (.cells #[.int .i64 fr, .int .i64 ct] 31)
  have R := Blk.new3 w (.cells #[.int .i64 (m : Int), .int .i64 (k : Int), .bool wb, .slice (some ⟨ba, oa, none⟩) xs.length ca, .slice (some ⟨bb, ob, none⟩) ys.length cb] 29) (.cells #[.slice (some ⟨b0, o0, none⟩) e.length e.length, .slice (some ⟨b1, o1, none⟩) x.length x.length, .slice (some ⟨b2, o2, none⟩) y.length y.length] 38) (.cells #[.int .i64 fr, .int .i64 ct] 31) #[.slice none 0 0, .slice none 0 0, .slice none 0 0] 38
  replace X := X.alloc (.cells #[.slice none 0 0, .slice none 0 0, .slice none 0 0] 38)
  replace Y := Y.alloc (.cells #[.slice none 0 0, .slice none 0 0, .slice none 0 0] 38)
  replace Q := Q.alloc (.cells #[.slice none 0 0, .slice none 0 0, .slice none 0 0] 38)
  have HB : Hid (Below w.heap.size w ((((w.alloc (.cells #[.int .i64 (m : Int), .int .i64 (k : Int), .bool wb, .slice (some ⟨ba, oa, none⟩) xs.length ca, .slice (some ⟨bb, ob, none⟩) ys.length cb] 29)).alloc (.cells #[.slice (some ⟨b0, o0, none⟩) e.length e.length, .slice (some ⟨b1, o1, none⟩) x.length x.length, .slice (some ⟨b2, o2, none⟩) y.length y.length] 38)).alloc (.cells #[.int .i64 fr, .int .i64 ct] 31)).alloc (.cells #[.slice none 0 0, .slice none 0 0, .slice none 0 0] 38))) := Lib.hid (((((Below.refl w.heap.size w).alloc (by simp <;> omega) _).alloc (by simp <;> omega) _).alloc (by simp <;> omega) _).alloc (by simp <;> omega) _)
  go_enter Try.func48, Try.ntmps48
  go_wp2_with fail
  generalize ((((w.alloc (.cells #[.int .i64 (m : Int), .int .i64 (k : Int), .bool wb, .slice (some ⟨ba, oa, none⟩) xs.length ca, .slice (some ⟨bb, ob, none⟩) ys.length cb] 29)).alloc (.cells #[.slice (some ⟨b0, o0, none⟩) e.length e.length, .slice (some ⟨b1, o1, none⟩) x.length x.length, .slice (some ⟨b2, o2, none⟩) y.length y.length] 38)).alloc (.cells #[.int .i64 fr, .int .i64 ct] 31)).alloc (.cells #[.slice none 0 0, .slice none 0 0, .slice none 0 0] 38)) = u1 at *
  refine (specBoth _ _ _ _ _ _ _ _ _ _ _ _ _ _ _ _ _ _ _ _ _ X Y (ha.later HB.out) (hb.later HB.out) hx hy (h0.later HB.out) (h1.later HB.out) (h2.later HB.out) m0 m1 m2).mono ?_
  rintro r u2 ⟨rfl, nq, hw⟩
  have q_ : Below u1.heap.size u1 u2 := by rw [hw]; exact below_drewN (Below.refl _ _) _
  clear hw
  replace X := X.later q_
  replace Y := Y.later q_
  replace Q := Q.later q_
  replace R := R.later q_
  replace HB := Lib.hid (HB.out.trans (q_.mono HB.out.size))
  clear q_
  rw [H_fb.out]
  go_wp2_with fail
  refine (specL07Is _ _ (m : Int) (k : Int) wb _ _ fr ct _ X Q (by omega) (by omega) (by omega) (by omega)).mono ?_
  rintro r u3 ⟨rfl, nq, hw⟩
  have q_ : Below u2.heap.size u2 u3 := by rw [hw]; exact below_drewN (Below.refl _ _) _
  clear hw
  replace X := X.later q_
  replace Y := Y.later q_
  replace Q := Q.later q_
  replace R := R.later q_
  replace HB := Lib.hid (HB.out.trans (q_.mono HB.out.size))
  clear q_
  rw [HRB.out]
  go_wp2_with fail
  have szo := HB.out.size; have szr := R.lt
  refine (specStepK _ _ m k n ba oa ca bb ob cb b0 b1 b2 o0 o1 o2 _ _ _ wb xs ys e x y _ X Y (ha.later HB.out) (hb.later HB.out) LA.out LB.out (h0.later HB.out) (h1.later HB.out) (h2.later HB.out) L0.out L1.out L2.out q0 q1 q2 s1 s2 s3 s4 HN).mono ?_
  rintro r u4 ⟨g0, g1, g2, k0, k1, k2, ea, xa, ya, rfl, z0, z1, z2, ae, ax, ay, b_, kc0, kc1, kc2⟩
  have HZ0 := Lib.hid z0; have HZ1 := Lib.hid z1; have HZ2 := Lib.hid z2; clear z0 z1 z2
  replace X := X.later b_
  replace Y := Y.later b_
  replace Q := Q.later b_
  replace R := R.later b_
  replace HB := Lib.hid (HB.out.trans (b_.mono HB.out.size))
  clear b_
  have V := Blk.new u4 #[.slice (some ⟨g0, 0, none⟩) n k0, .slice (some ⟨g1, 0, none⟩) n k1, .slice (some ⟨g2, 0, none⟩) n k2] 38
  have q := below_new u4 (.cells #[.slice (some ⟨g0, 0, none⟩) n k0, .slice (some ⟨g1, 0, none⟩) n k1, .slice (some ⟨g2, 0, none⟩) n k2] 38)
  replace X := X.later q
  replace Y := Y.later q
  replace Q := Q.later q
  replace R := R.later q
  replace HZ0 := Lib.hid (HZ0.out.later q)
  replace HZ1 := Lib.hid (HZ1.out.later q)
  replace HZ2 := Lib.hid (HZ2.out.later q)
  replace HB := Lib.hid (HB.out.trans (q.mono HB.out.size))
  clear q
  go_wp2_with fail
  generalize (u4.alloc (.cells #[.slice (some ⟨g0, 0, none⟩) n k0, .slice (some ⟨g1, 0, none⟩) n k1, .slice (some ⟨g2, 0, none⟩) n k2] 38)) = u5 at *
  have szo2 := HB.out.size; have szr2 := R.lt
  refine (specCutOf _ _ _ g0 g1 g2 0 0 0 k0 k1 k2 n q l (m : Int) (k : Int) wb _ _ fr ct (firsts ea n) (firsts xa n) (firsts ya n) _ X V Q HZ0.out.row HZ1.out.row HZ2.out.row (firsts_length _ _) (firsts_length _ _) (firsts_length _ _) n256 kc0 kc1 kc2 (by omega) (by omega) HQ HQM l0_ hle f0 f1 f3).mono ?_
  rintro r u6 ⟨d0, d1, d2, j0, j1, j2, rfl, oo0, oo1, oo2, g01, g12, q9⟩
  have HT := tag_step (t := ⟨nums e, nums x, nums y⟩) (by omega) (by omega) HN.out ⟨lag_self L0.out q0, lag_self L1.out q1, lag_self L2.out q2⟩ ae ax ay
  have HI0 := Lib.hid (is_part (q := q) (l := l) HT.e hle hl256 (fun i hi => rfl))
  have HI1 := Lib.hid (is_part (q := q) (l := l) HT.x hle hl256 (fun i hi => rfl))
  have HI2 := Lib.hid (is_part (q := q) (l := l) HT.y hle hl256 (fun i hi => rfl))
  have HPL0 : Hid ((placed (fun i => q + i) l (firsts ea n)).length = l) := Lib.hid (placed_length _ _ _)
  have HPL1 : Hid ((placed (fun i => q + i) l (firsts xa n)).length = l) := Lib.hid (placed_length _ _ _)
  have HPL2 : Hid ((placed (fun i => q + i) l (firsts ya n)).length = l) := Lib.hid (placed_length _ _ _)
  have y0 := oo0.bound d0 rfl
  have W0 := Lib.hid (oo0.lower (show w.heap.size ≤ _ by omega))
  have W1 := Lib.hid (oo1.lower (show w.heap.size ≤ _ by omega))
  have W2 := Lib.hid (oo2.lower (show w.heap.size ≤ _ by omega))
  clear oo0 oo1 oo2 HT ae ax ay
  replace R := R.later q9
  replace HB := Lib.hid (HB.out.trans (q9.mono HB.out.size))
  clear q9
  clear HZ0 HZ1 HZ2 X Y Q V
  generalize placed (fun i => q + i) l (firsts ea n) = p0 at *
  generalize placed (fun i => q + i) l (firsts xa n) = p1 at *
  generalize placed (fun i => q + i) l (firsts ya n) = p2 at *
  obtain ⟨Rc, Rf⟩ := R.open
  go_wp2
  refine bodyPost_ret (v := .tuple #[.agg #[.slice (some ⟨d0, 0, none⟩) l j0, .slice (some ⟨d1, 0, none⟩) l j1, .slice (some ⟨d2, 0, none⟩) l j2], .bool true]) (by simp [results, Try.results48, go_sem, Rc]) rfl (ownO_yes HBT.out HPL0.out HPL1.out HPL2.out ⟨(((W0.out.set (p := ⟨w.heap.size + 1 + 1 + 1, 0, none⟩) (ne_block (h := w.heap.size + 1 + 1 + 1) (by omega)) _).set (p := ⟨w.heap.size + 1 + 1 + 1, 1, none⟩) (ne_block (h := w.heap.size + 1 + 1 + 1) (by omega)) _).set (p := ⟨w.heap.size + 1 + 1 + 1, 2, none⟩) (ne_block (h := w.heap.size + 1 + 1 + 1) (by omega)) _), (((W1.out.set (p := ⟨w.heap.size + 1 + 1 + 1, 0, none⟩) (ne_block (h := w.heap.size + 1 + 1 + 1) (by omega)) _).set (p := ⟨w.heap.size + 1 + 1 + 1, 1, none⟩) (ne_block (h := w.heap.size + 1 + 1 + 1) (by omega)) _).set (p := ⟨w.heap.size + 1 + 1 + 1, 2, none⟩) (ne_block (h := w.heap.size + 1 + 1 + 1) (by omega)) _), (((W2.out.set (p := ⟨w.heap.size + 1 + 1 + 1, 0, none⟩) (ne_block (h := w.heap.size + 1 + 1 + 1) (by omega)) _).set (p := ⟨w.heap.size + 1 + 1 + 1, 1, none⟩) (ne_block (h := w.heap.size + 1 + 1 + 1) (by omega)) _).set (p := ⟨w.heap.size + 1 + 1 + 1, 2, none⟩) (ne_block (h := w.heap.size + 1 + 1 + 1) (by omega)) _), HI0.out, HI1.out, HI2.out, (((HB.out.setCell (p := ⟨w.heap.size + 1 + 1 + 1, 0, none⟩) (by first | omega | (simp <;> omega)) _).setCell (p := ⟨w.heap.size + 1 + 1 + 1, 1, none⟩) (by first | omega | (simp <;> omega)) _).setCell (p := ⟨w.heap.size + 1 + 1 + 1, 2, none⟩) (by first | omega | (simp <;> omega)) _)⟩)

end Go.Proofs.Ytedfbaeajofmnaa
