/- Rows that are divided among workers: the program's list of strips. Conditions: none beyond those of each theorem. -/
import Derived.Test.YtedfbaeajofmnaaStrip
import Derived.Test.YtedfbaeajofmnaaStripM
import Derived.Test.YtedfbaeajofmnaaInvC
import Derived.Test.YtedfbaeajofmnaaCallV
import Derived.Test.YtedfbaeajofmnaaBu23
namespace Go.Proofs.Ytedfbaeajofmnaa
open Go Ieee Go.RowKit
set_option linter.unusedVariables false
set_option linter.unusedSimpArgs false

/-- the first row of the strip with a number -/
def firstI (ea le k : Int) : Int := k * ea + (if k ≤ le then k else le)
def stripG (hi wk : Int) (k : Nat) : Int × Int := (firstI (hi / wk) (hi % wk) k, firstI (hi / wk) (hi % wk) (k + 1) - firstI (hi / wk) (hi % wk) k)
def stripsL (hi wk : Int) : List (Int × Int) := (List.range (if wk ≤ hi then wk else hi).toNat).map (stripG hi wk)
def stripsB (wd hi : Int) (xs ys : List Nat) (wk : Int) : Bool := validB wd hi xs ys && decide (1 ≤ wk ∧ wk ≤ 8)

theorem first_in {ea le k : Int} (h0 : 0 ≤ k) (h1 : k ≤ 16) (h2 : 0 ≤ ea) (h3 : ea ≤ 16) (h4 : 0 ≤ le) (h5 : le ≤ 16) : 0 ≤ k * ea ∧ k * ea ≤ 256 ∧ 0 ≤ firstI ea le k ∧ firstI ea le k ≤ 272 := by
  have a : 0 ≤ k * ea := Int.mul_nonneg h0 h2
  have b : k * ea ≤ 16 * 16 := Int.mul_le_mul h1 h3 h2 (by omega)
  unfold firstI
  split <;> omega

theorem first_next (ea le k : Int) : firstI ea le (k + 1) - firstI ea le k = ea + (if k < le then 1 else 0) := by
  unfold firstI
  rw [Int.add_mul, Int.one_mul]
  split <;> split <;> split <;> omega

set_option maxHeartbeats 4000000 in
theorem implFirst (k ea le : Int) (g h : Nat) (w : World) (E : Blk w g #[.int .i64 ea] 2) (L : Blk w h #[.int .i64 le] 2) (h0 : 0 ≤ k) (h1 : k ≤ 16) (h2 : 0 ≤ ea) (h3 : ea ≤ 16) (h4 : 0 ≤ le) (h5 : le ≤ 16) :
    Calls Try.prog 109 #[.int .i64 k, .pointer (some ⟨g, 0, none⟩), .pointer (some ⟨h, 0, none⟩)] w fun e w' => e = .returned (.int .i64 (firstI ea le k)) ∧ Below w.heap.size w w' := by
  obtain ⟨a1, a2, a3, a4⟩ := first_in h0 h1 h2 h3 h4 h5
  obtain ⟨Ec, Ef⟩ := E.open; obtain ⟨Lc, Lf⟩ := L.open
  have W1 : Hid (wrap64 (k * ea) = k * ea) := Lib.hid (by unfold wrap64; omega)
  by_cases hk : k ≤ le
  · have W2 : Hid (k * ea + k = firstI ea le k) := Lib.hid (by unfold firstI; rw [if_pos hk])
    go_enter Try.func109, Try.ntmps109
    go_wp2
    go_ret
    refine ⟨?_, Below.refl _ _⟩
    show Ending.returned (.int .i64 (k * ea + k)) = _
    rw [W2.out]
  · have W2 : Hid (k * ea + le = firstI ea le k) := Lib.hid (by unfold firstI; rw [if_neg hk])
    go_enter Try.func109, Try.ntmps109
    go_wp2
    go_ret
    refine ⟨?_, Below.refl _ _⟩
    show Ending.returned (.int .i64 (k * ea + le)) = _
    rw [W2.out]

set_option maxHeartbeats 4000000 in
set_option maxRecDepth 100000 in
theorem implStripK (k ea le : Int) (g h gf : Nat) (w : World) (V : Blk w gf #[.func (.func 109) #[] #[.pointer (some ⟨g, 0, none⟩), .pointer (some ⟨h, 0, none⟩)]] 146) (E : Blk w g #[.int .i64 ea] 2) (L : Blk w h #[.int .i64 le] 2) (h0 : 0 ≤ k) (h1 : k ≤ 15) (h2 : 0 ≤ ea) (h3 : ea ≤ 16) (h4 : 0 ≤ le) (h5 : le ≤ 16) :
    Calls Try.prog 111 #[.int .i64 k, .pointer (some ⟨gf, 0, none⟩)] w fun e w' => e = .returned (.agg #[.int .i64 (firstI ea le k), .int .i64 (firstI ea le (k + 1) - firstI ea le k)]) ∧ Below w.heap.size w w' := by
  have a1 := first_in h0 (by omega) h2 h3 h4 h5; have a2 := first_in (k := k + 1) (by omega) (by omega) h2 h3 h4 h5
  have HW1 : Hid (IntKind.i64.wrap (k + 1) = k + 1) := Lib.hid (IntWalk.i64_in _ (by omega))
  have HW2 : Hid (IntKind.i64.wrap (firstI ea le (k + 1) - firstI ea le k) = firstI ea le (k + 1) - firstI ea le k) := Lib.hid (IntWalk.i64_in _ (by omega))
  clear a1 a2
  have R := Blk.new w #[.int .i64 0, .int .i64 0] 31
  have HB : Hid (Below w.heap.size w (w.alloc (.cells #[.int .i64 0, .int .i64 0] 31))) := Lib.hid ((Below.refl w.heap.size w).alloc (by simp <;> omega) _)
  go_enter Try.func111, Try.ntmps111
  go_wp2_with fail
  generalize (w.alloc (.cells #[.int .i64 0, .int .i64 0] 31)) = u1 at *
  replace V := V.later HB.out
  replace E := E.later HB.out
  replace L := L.later HB.out
  have afn : ∀ w, (isAgg 146).run Try.prog w = .ok false w := fun w => by kernel_rfl
  have HBU := HB.out; have zu := HBU.size; have zr := R.lt
  obtain ⟨Vc, Vf⟩ := V.open
  refine wp_region_noPanic ?_
  refine wp_region_plan (Grows u1) 12 [(0, true), (1, true), (3, true), (4, true), (5, true), (7, true), (8, true), (2, false), (6, false), (9, false), (10, true), (11, true)] (by kernel_rfl) (by kernel_rfl) (fun _ _ _ _ _ h => h) (Grows.drew _) ?_
  (refine plan_load rfl rfl (⟨gf, 0, none⟩) (by kernel_rfl) (.func (.func 109) #[] #[.pointer (some ⟨g, 0, none⟩), .pointer (some ⟨h, 0, none⟩)]) (load_cell afn (Vc 0)) ?_; simp only [Act.put, List.setIfInBounds_toArray, List.set_cons_zero, List.set_cons_succ, List.getElem_toArray, List.getElem_cons_zero, List.getElem_cons_succ])
  (refine plan_plain rfl rfl ?_ ?_ ?_; rotate_left; focus (intro w9; go_simp <;> with_reducible rfl)); (simp only [Act.put, List.setIfInBounds_toArray, List.set_cons_zero, List.set_cons_succ, List.getElem_toArray, List.getElem_cons_zero, List.getElem_cons_succ])
  (refine plan_load rfl rfl (⟨gf, 0, none⟩) (by kernel_rfl) (.func (.func 109) #[] #[.pointer (some ⟨g, 0, none⟩), .pointer (some ⟨h, 0, none⟩)]) (load_cell afn (Vc 0)) ?_; simp only [Act.put, List.setIfInBounds_toArray, List.set_cons_zero, List.set_cons_succ, List.getElem_toArray, List.getElem_cons_zero, List.getElem_cons_succ])
  (refine plan_plain rfl rfl ?_ ?_ ?_; rotate_left; focus (intro w9; go_simp <;> with_reducible rfl)); (simp only [Act.put, List.setIfInBounds_toArray, List.set_cons_zero, List.set_cons_succ, List.getElem_toArray, List.getElem_cons_zero, List.getElem_cons_succ])
  (refine plan_plain rfl rfl ?_ ?_ ?_; rotate_left; focus (intro w9; go_simp <;> with_reducible rfl)); (simp only [Act.put, List.setIfInBounds_toArray, List.set_cons_zero, List.set_cons_succ, List.getElem_toArray, List.getElem_cons_zero, List.getElem_cons_succ])
  simp only [HW1.out]
  (refine plan_load rfl rfl (⟨gf, 0, none⟩) (by kernel_rfl) (.func (.func 109) #[] #[.pointer (some ⟨g, 0, none⟩), .pointer (some ⟨h, 0, none⟩)]) (load_cell afn (Vc 0)) ?_; simp only [Act.put, List.setIfInBounds_toArray, List.set_cons_zero, List.set_cons_succ, List.getElem_toArray, List.getElem_cons_zero, List.getElem_cons_succ])
  (refine plan_plain rfl rfl ?_ ?_ ?_; rotate_left; focus (intro w9; go_simp <;> with_reducible rfl)); (simp only [Act.put, List.setIfInBounds_toArray, List.set_cons_zero, List.set_cons_succ, List.getElem_toArray, List.getElem_cons_zero, List.getElem_cons_succ])
  have v0_ := Grows.drew u1
  generalize u1.drew = v0 at *
  refine plan_call rfl rfl 109 #[] #[.pointer (some ⟨g, 0, none⟩), .pointer (some ⟨h, 0, none⟩)] (by kernel_rfl) _ Try.func109 (by kernel_rfl) (by kernel_rfl) [.int .i64 k] (by kernel_rfl) #[.int .i64 k, .pointer (some ⟨g, 0, none⟩), .pointer (some ⟨h, 0, none⟩)] (by simp) _ (implFirst k ea le g h v0 (E.later v0_) (L.later v0_) (by omega) (by omega) h2 h3 h4 h5) ?_
  rintro e v1 ⟨rfl, b0⟩
  refine ⟨_, rfl, v0_.next b0, ?_⟩
  simp only [Act.put, List.setIfInBounds_toArray, List.set_cons_zero, List.set_cons_succ, List.getElem_toArray, List.getElem_cons_zero, List.getElem_cons_succ]
  have v1_ := v0_.next b0
  refine plan_call rfl rfl 109 #[] #[.pointer (some ⟨g, 0, none⟩), .pointer (some ⟨h, 0, none⟩)] (by kernel_rfl) _ Try.func109 (by kernel_rfl) (by kernel_rfl) [.int .i64 (k + 1)] (by kernel_rfl) #[.int .i64 (k + 1), .pointer (some ⟨g, 0, none⟩), .pointer (some ⟨h, 0, none⟩)] (by simp) _ (implFirst (k + 1) ea le g h v1 (E.later v1_) (L.later v1_) (by omega) (by omega) h2 h3 h4 h5) ?_
  rintro e v2 ⟨rfl, b1⟩
  refine ⟨_, rfl, v1_.next b1, ?_⟩
  simp only [Act.put, List.setIfInBounds_toArray, List.set_cons_zero, List.set_cons_succ, List.getElem_toArray, List.getElem_cons_zero, List.getElem_cons_succ]
  have v2_ := v1_.next b1
  refine plan_call rfl rfl 109 #[] #[.pointer (some ⟨g, 0, none⟩), .pointer (some ⟨h, 0, none⟩)] (by kernel_rfl) _ Try.func109 (by kernel_rfl) (by kernel_rfl) [.int .i64 k] (by kernel_rfl) #[.int .i64 k, .pointer (some ⟨g, 0, none⟩), .pointer (some ⟨h, 0, none⟩)] (by simp) _ (implFirst k ea le g h v2 (E.later v2_) (L.later v2_) (by omega) (by omega) h2 h3 h4 h5) ?_
  rintro e v3 ⟨rfl, b2⟩
  refine ⟨_, rfl, v2_.next b2, ?_⟩
  simp only [Act.put, List.setIfInBounds_toArray, List.set_cons_zero, List.set_cons_succ, List.getElem_toArray, List.getElem_cons_zero, List.getElem_cons_succ]
  have v3_ := v2_.next b2
  (refine plan_plain rfl rfl ?_ ?_ ?_; rotate_left; focus (intro w9; go_simp <;> with_reducible rfl)); (simp only [Act.put, List.setIfInBounds_toArray, List.set_cons_zero, List.set_cons_succ, List.getElem_toArray, List.getElem_cons_zero, List.getElem_cons_succ])
  simp only [HW2.out]
  (refine plan_build rfl rfl #[.int .i64 (firstI ea le k), .int .i64 (firstI ea le (k + 1) - firstI ea le k)] (by kernel_rfl) ?_; simp only [Act.put, List.setIfInBounds_toArray, List.set_cons_zero, List.set_cons_succ, List.getElem_toArray, List.getElem_cons_zero, List.getElem_cons_succ])
  change wpList _ _ _ _ _ _
  simp only [List.drop_succ_cons, List.drop_zero]
  have HB4 := Lib.hid (HBU.trans (Below.mono v3_ zu)); have R4 := R.later v3_
  clear b0 b1 b2 v0_ v1_ v2_ v3_ R HB Vc Vf
  obtain ⟨Rc, Rf⟩ := R4.open
  go_wp2_with fail
  refine NoPanic.normal ?_
  go_wp2
  exact bodyPost_ret (v := .agg #[.int .i64 (firstI ea le k), .int .i64 (firstI ea le (k + 1) - firstI ea le k)]) (by simp [results, Try.results111, go_sem, Rc]) rfl ⟨rfl, ((HB4.out.setCell (p := ⟨w.heap.size, 0, none⟩) (by first | omega | (simp <;> omega)) _).setCell (p := ⟨w.heap.size, 1, none⟩) (by first | omega | (simp <;> omega)) _)⟩

theorem getD_setS {L : List (Int × Int)} {k : Nat} {v : Int × Int} (h : k < L.length) : (L.set k v).getD k (0, 0) = v := by simp [List.getD_eq_getElem?_getD, h]
theorem getD_setO {L : List (Int × Int)} {k i : Nat} {v : Int × Int} (h : i ≠ k) : (L.set k v).getD i (0, 0) = L.getD i (0, 0) := by simp [List.getD_eq_getElem?_getD, List.getElem?_set, Ne.symm h]
theorem told_all {L : List (Int × Int)} {n : Nat} {G : Nat → Int × Int} (hl : L.length = n) (h : ∀ i, i < n → L.getD i (0, 0) = G i) : L = (List.range n).map G := by
  apply List.ext_getElem
  · simp [hl]
  · intro i h1 h2
    have := h i (by omega)
    rw [List.getD_eq_getElem?_getD, List.getElem?_eq_getElem h1] at this
    simpa using this

set_option maxHeartbeats 8000000 in
set_option maxRecDepth 100000 in
theorem implListByS (n : Nat) (fc : FuncId) (r1 k1 : Array Value) (G : Nat → Int × Int) (w : World) (n64 : n ≤ 64) (gC : IsGo fc)
    (hC : ∀ i : Nat, i < n → ∀ w', Below w.heap.size w w' → Calls Try.prog fc (r1 ++ #[.int .i64 (i : Int)] ++ k1) w' fun e w'' => e = .returned (.agg #[.int .i64 (G i).1, .int .i64 (G i).2]) ∧ Below w'.heap.size w' w'') :
    Calls Try.prog 110 #[.int .i64 n, .func (.func fc) r1 k1] w fun e w' => ∃ g, e = .returned (.slice (some ⟨g, 0, none⟩) n n) ∧ OwnV w' w.heap.size (some ⟨g, 0, none⟩) (pvals ((List.range n).map G)) ∧ Below w.heap.size w w' := by
  have HO0 := Lib.hid (own_zerosP w n 31)
  have HB0 : Hid (Below w.heap.size w (w.alloc (.cells (List.replicate (n * 2) (Value.int .i64 0)).toArray 31))) := Lib.hid (below_new _ _)
  have HC := Lib.hid hC; clear hC
  have hmk := make_fullStrip n (by omega)
  have hn0 : (0 : Int) ≤ (n : Int) := Int.natCast_nonneg n
  have HT : Hid (∀ L : List (Int × Int), L.length = n → (∀ i, i < n → L.getD i (0, 0) = G i) → L = (List.range n).map G) := Lib.hid (fun L h1 h2 => told_all h1 h2)
  go_enter Try.func110, Try.ntmps110
  go_wp2
  go_loopw [10] (fun iv wr => ∃ (k : Nat) (L : List (Int × Int)), k ≤ n ∧ iv = .int .i64 k ∧ L.length = n ∧ (∀ i, i < k → L.getD i (0, 0) = G i) ∧ OwnV wr w.heap.size (some ⟨w.heap.size, 0, none⟩) (pvals L) ∧ Below w.heap.size w wr) (fun iv _ => n - (intOf iv).toNat)
  case atStart => exact ⟨0, List.replicate n (0, 0), Nat.zero_le _, rfl, by simp, (fun i hi => by omega), by simpa using HO0.out, by simpa using HB0.out⟩
  case round =>
    obtain ⟨k, L, hk, rfl, hL, hM, hown, hb⟩ := hrel
    replace HO := Lib.hid hown; have HB := Lib.hid hb; have HM := Lib.hid hM; have HL := Lib.hid hL; clear hown hb hM hL HO0 HB0 hmk
    by_cases hlt : k < n
    · skip
      have kL : k < L.length := by rw [HL.out]; exact hlt
      have hki : (k : Int) < (n : Int) := by omega
      obtain ⟨gg1, gg2⟩ := pvals_get kL
      have HG1 := Lib.hid gg1; have HG2 := Lib.hid gg2; clear gg1 gg2
      go_wp2_with (refine wpList_callV fc r1 k1 rfl gC [.int .i64 (k : Int)] rfl _ (HC.out k hlt _ HB.out) ?_; rintro e v5 ⟨rfl, q⟩; refine ⟨_, rfl, ?_⟩; replace HO := Lib.hid (HO.out.later q); obtain ⟨cs, tt, _, hblk, hvv⟩ := own_some HO.out; obtain ⟨gcc, gcf⟩ := hblk.open; have f0 : v5.cell? ⟨w.heap.size, k * 2, none⟩ = some _ := (gcc _).trans (hvv (k * 2) _ HG1.out); have f1 : v5.cell? ⟨w.heap.size, k * 2 + 1, none⟩ = some _ := (gcc _).trans (hvv (k * 2 + 1) _ HG2.out); have GF := gcf (k * 2); have GF1 := gcf (k * 2 + 1); clear gcc gcf hvv hblk)
      have hp := own_put (own_put HO.out (k * 2) (.int .i64 (G k).1) (by rw [pvals_length]; omega)) (k * 2 + 1) (.int .i64 (G k).2) (by rw [List.length_set, pvals_length]; omega)
      rw [pvals_set kL] at hp
      have HP := Lib.hid hp; clear hp
      go_roundw
      case rel =>
        refine ⟨k + 1, L.set k (G k), by omega, by go_num, by rw [List.length_set]; exact HL.out, fun i hi => ?_, HP.out, ((HB.out.trans (q.mono HB.out.size)).setCell (p := ⟨w.heap.size, k * 2, none⟩) (Nat.le_refl _) _).setCell (p := ⟨w.heap.size, k * 2 + 1, none⟩) (Nat.le_refl _) _⟩
        by_cases e : i = k
        · subst e; exact getD_setS kL
        · rw [getD_setO e]; exact HM.out i (by omega)
      case measure => simp [intOf]; omega
    · skip
      obtain rfl : k = n := by omega
      have e := HT.out L HL.out HM.out
      rw [e] at HO
      clear e
      go_wp2
      go_ret
      exact ⟨_, rfl, HO.out, HB.out⟩
theorem implListBySV (n : Nat) (z : Int) (hz : z = (n : Int)) (fc : FuncId) (r1 k1 : Array Value) (G : Nat → Int × Int) (w : World) (n64 : n ≤ 64) (gC : IsGo fc)
    (hC : ∀ i : Nat, i < n → ∀ w', Below w.heap.size w w' → Calls Try.prog fc (r1 ++ #[.int .i64 (i : Int)] ++ k1) w' fun e w'' => e = .returned (.agg #[.int .i64 (G i).1, .int .i64 (G i).2]) ∧ Below w'.heap.size w' w'') :
    Calls Try.prog 110 #[.int .i64 z, .func (.func fc) r1 k1] w fun e w' => ∃ g, e = .returned (.slice (some ⟨g, 0, none⟩) n n) ∧ OwnV w' w.heap.size (some ⟨g, 0, none⟩) (pvals ((List.range n).map G)) ∧ Below w.heap.size w w' := by
  subst hz; exact implListByS n fc r1 k1 G w n64 gC hC

set_option maxHeartbeats 8000000 in
set_option maxRecDepth 100000 in
theorem implStripsH (wd hi wk : Int) (wb : Bool) (w : World) (s3 : 3 ≤ hi) (s4 : hi ≤ 16) (k1 : 1 ≤ wk) (k2 : wk ≤ 8) :
    Calls Try.prog 69 #[.agg #[.int .i64 wd, .int .i64 hi, .bool wb], .int .i64 wk] w fun e w' => ∃ g n, e = .returned (.slice (some ⟨g, 0, none⟩) n n) ∧ (stripsL hi wk).length = n ∧ OwnV w' w.heap.size (some ⟨g, 0, none⟩) (pvals (stripsL hi wk)) ∧ Below w.heap.size w w' := by
  have ai64 : ∀ w, (isAgg 2).run Try.prog w = .ok false w := fun w => by kernel_rfl
  have hne : (wk == 0) = false := by simp; omega
  have hz : wk ≠ 0 := by omega
  have e0 : 0 ≤ hi / wk := Int.ediv_nonneg (by omega) (by omega)
  have e1 : hi / wk ≤ hi := Int.ediv_le_self _ (by omega)
  have l0 : 0 ≤ hi % wk := Int.emod_nonneg _ hz
  have l1 : hi % wk < wk := Int.emod_lt_of_pos _ (by omega)
  have HQ2 : Hid (IntKind.i64.wrap (hi.tdiv wk) = hi / wk) := Lib.hid (by rw [Int.tdiv_eq_ediv_of_nonneg (by omega)]; exact IntWalk.i64_in _ (by omega))
  have HR2 : Hid (hi.tmod wk = hi % wk) := Lib.hid (Int.tmod_eq_emod_of_nonneg (by omega))
  obtain ⟨n, hn⟩ : ∃ n : Nat, (n : Int) = (if wk ≤ hi then wk else hi) := ⟨(if wk ≤ hi then wk else hi).toNat, by split <;> omega⟩
  have HNL : Hid (stripsL hi wk = (List.range n).map (stripG hi wk)) := Lib.hid (by unfold stripsL; rw [← hn, Int.toNat_natCast])
  rw [HNL.out]
  have hn1 : (n : Int) ≤ wk := by rw [hn]; split <;> omega
  have hn2 : (n : Int) ≤ 16 := by omega
  have HSG : Hid (∀ i : Nat, stripG hi wk i = (firstI (hi / wk) (hi % wk) (i : Int), firstI (hi / wk) (hi % wk) ((i : Int) + 1) - firstI (hi / wk) (hi % wk) (i : Int))) := Lib.hid (fun i => rfl)
  have HNN := Lib.hid hn; clear hn
  generalize hi / wk = ea at *; generalize hi % wk = le at *
  by_cases hk : wk ≤ hi
  · skip
    have HZZ : Hid (wk = (n : Int)) := Lib.hid (by rw [HNN.out, if_pos hk])
    clear HNN
    have H := Blk.new w #[.int .i64 wd, .int .i64 hi, .bool wb] 80
    have HB : Hid (Below w.heap.size w (w.alloc (.cells #[.int .i64 wd, .int .i64 hi, .bool wb] 80))) := Lib.hid ((Below.refl w.heap.size w).alloc (by simp <;> omega) _)
    go_enter Try.func69, Try.ntmps69
    go_upto_region 1 with (fail)
    generalize (w.alloc (.cells #[.int .i64 wd, .int .i64 hi, .bool wb] 80)) = u1 at *
    have HBU := HB.out; have zu := HBU.size; have zh := H.lt
    obtain ⟨Hc, Hf⟩ := H.open
    refine wp_region_noPanic ?_
    refine wp_region_inv (Grows u1) 12 [0, 1, 2, 3, 4, 5, 6, 7] [8, 9, 10, 11] (by kernel_rfl) (by kernel_rfl) (fun _ _ _ _ _ h => h) (Grows.drew _) ?_
    (refine itake_plain rfl (by kernel_rfl) ?_ ?_ ?_; rotate_left; focus (intro w9 _; go_simp <;> with_reducible rfl)); (simp only [Act.put, List.setIfInBounds_toArray, List.set_cons_zero, List.set_cons_succ, List.getElem_toArray, List.getElem_cons_zero, List.getElem_cons_succ])
    (refine itake_load rfl (by kernel_rfl) (⟨w.heap.size, 1, none⟩) (by kernel_rfl) (.int .i64 hi) (load_cell ai64 (Hc 1)) ?_; simp only [Act.put, List.setIfInBounds_toArray, List.set_cons_zero, List.set_cons_succ, List.getElem_toArray, List.getElem_cons_zero, List.getElem_cons_succ])
    (refine itake_plain rfl (by kernel_rfl) ?_ ?_ ?_; rotate_left; focus (intro w9 _; go_simp <;> with_reducible rfl)); (simp only [Act.put, List.setIfInBounds_toArray, List.set_cons_zero, List.set_cons_succ, List.getElem_toArray, List.getElem_cons_zero, List.getElem_cons_succ])
    (refine itake_plain rfl (by kernel_rfl) ?_ ?_ ?_; rotate_left; focus (intro w9 _; go_simp <;> with_reducible rfl)); (simp only [Act.put, List.setIfInBounds_toArray, List.set_cons_zero, List.set_cons_succ, List.getElem_toArray, List.getElem_cons_zero, List.getElem_cons_succ])
    simp only [HQ2.out]
    (refine itake_plain rfl (by kernel_rfl) ?_ ?_ ?_; rotate_left; focus (intro w9 _; go_simp <;> with_reducible rfl)); (simp only [Act.put, List.setIfInBounds_toArray, List.set_cons_zero, List.set_cons_succ, List.getElem_toArray, List.getElem_cons_zero, List.getElem_cons_succ])
    (refine itake_load rfl (by kernel_rfl) (⟨w.heap.size, 1, none⟩) (by kernel_rfl) (.int .i64 hi) (load_cell ai64 (Hc 1)) ?_; simp only [Act.put, List.setIfInBounds_toArray, List.set_cons_zero, List.set_cons_succ, List.getElem_toArray, List.getElem_cons_zero, List.getElem_cons_succ])
    (refine itake_plain rfl (by kernel_rfl) ?_ ?_ ?_; rotate_left; focus (intro w9 _; go_simp <;> with_reducible rfl)); (simp only [Act.put, List.setIfInBounds_toArray, List.set_cons_zero, List.set_cons_succ, List.getElem_toArray, List.getElem_cons_zero, List.getElem_cons_succ])
    (refine itake_plain rfl (by kernel_rfl) ?_ ?_ ?_; rotate_left; focus (intro w9 _; go_simp <;> with_reducible rfl)); (simp only [Act.put, List.setIfInBounds_toArray, List.set_cons_zero, List.set_cons_succ, List.getElem_toArray, List.getElem_cons_zero, List.getElem_cons_succ])
    simp only [HR2.out]
    intro A0 hA0
    refine ⟨fun b a w9 => ∃ v5 v6 : Value, a = (Act.put (Act.put A0 (some 5) v5) (some 6) v6) ∧ Below u1.heap.size u1 w9 ∧ (b.getD 8 true = true → ∃ g, v5 = .pointer (some ⟨g, 0, none⟩) ∧ u1.heap.size ≤ g ∧ Blk w9 g (if b.getD 10 true = true then #[.int .i64 ea] else #[.int .i64 0]) 2) ∧ (b.getD 9 true = true → ∃ g, v6 = .pointer (some ⟨g, 0, none⟩) ∧ u1.heap.size ≤ g ∧ Blk w9 g (if b.getD 11 true = true then #[.int .i64 le] else #[.int .i64 0]) 2) ∧ (b.getD 8 true = true → b.getD 9 true = true → v5 ≠ v6) ∧ (b.getD 10 true = true → b.getD 8 true = true) ∧ (b.getD 11 true = true → b.getD 9 true = true), ?_, ?_, ?_, ?_⟩
    · rintro b a w9 ⟨_, _, _, hb, _⟩; exact hb
    · exact ⟨undef, undef, by rw [hA0]; kernel_rfl, Grows.drew _, (fun h => by cases h), (fun h => by cases h), (fun h => by cases h), (fun h => by cases h), (fun h => by cases h)⟩
    · intro i hi_ b a w9 hib hd hun hI
      obtain ⟨v5, v6, rfl, hb, f8, f9, f89, c10, c11⟩ := hI
      simp only [List.mem_cons, List.mem_nil_iff, or_false] at hi_
      rcases hi_ with rfl | rfl | rfl | rfl
      · refine ⟨_, rfl, ?_⟩
        have q := below_new w9 (.cells #[.int .i64 0] 2)
        have sz := q.size; have hbs := Below.size hb
        refine inv_make (by rw [hA0]; kernel_rfl) (.pointer (some ⟨w9.heap.size, 0, none⟩)) (w9.alloc (.cells #[.int .i64 0] 2)) (by rw [hA0]; go_simp <;> with_reducible rfl) (Grows.next hb q) ?_
        obtain ⟨v', hv⟩ : ∃ v' : Value, v' = .pointer (some ⟨w9.heap.size, 0, none⟩) := ⟨_, rfl⟩
        rw [← hv]
        exact ⟨v', v6, by rw [hA0]; kernel_rfl, Grows.next hb q, (fun _ => ⟨_, hv, hbs, by rw [if_neg (fun h => absurd (c10 (got_set (by decide) h)) (by rw [hun]; simp))]; exact Blk.new w9 _ _⟩), (fun h => by obtain ⟨g, e, l, B⟩ := f9 (got_set (by decide) h); exact ⟨g, e, l, by rw [getD_set_ne true (by decide)]; exact B.later q⟩), (fun h1 h2 => by obtain ⟨g, e, l, B⟩ := f9 (got_set (by decide) h2); have := B.lt; rw [e, hv]; intro h; simp only [Value.pointer.injEq, Option.some.injEq, Addr.mk.injEq] at h; omega), (fun h => set_keepT (c10 (got_set (by decide) h))), (fun h => set_keepT (c11 (got_set (by decide) h)))⟩
      · refine ⟨_, rfl, ?_⟩
        have q := below_new w9 (.cells #[.int .i64 0] 2)
        have sz := q.size; have hbs := Below.size hb
        refine inv_make (by rw [hA0]; kernel_rfl) (.pointer (some ⟨w9.heap.size, 0, none⟩)) (w9.alloc (.cells #[.int .i64 0] 2)) (by rw [hA0]; go_simp <;> with_reducible rfl) (Grows.next hb q) ?_
        obtain ⟨v', hv⟩ : ∃ v' : Value, v' = .pointer (some ⟨w9.heap.size, 0, none⟩) := ⟨_, rfl⟩
        rw [← hv]
        exact ⟨v5, v', by rw [hA0]; kernel_rfl, Grows.next hb q, (fun h => by obtain ⟨g, e, l, B⟩ := f8 (got_set (by decide) h); exact ⟨g, e, l, by rw [getD_set_ne true (by decide)]; exact B.later q⟩), (fun _ => ⟨_, hv, hbs, by rw [if_neg (fun h => absurd (c11 (got_set (by decide) h)) (by rw [hun]; simp))]; exact Blk.new w9 _ _⟩), (fun h1 h2 => by obtain ⟨g, e, l, B⟩ := f8 (got_set (by decide) h1); have := B.lt; rw [e, hv]; intro h; simp only [Value.pointer.injEq, Option.some.injEq, Addr.mk.injEq] at h; omega), (fun h => set_keepT (c10 (got_set (by decide) h))), (fun h => set_keepT (c11 (got_set (by decide) h)))⟩
      · refine ⟨_, rfl, ?_⟩
        have hs := getD_tt (hd _ rfl ⟨8, .data⟩ (by simp) (by rfl))
        obtain ⟨g, e, l, B⟩ := f8 hs
        rw [if_neg (by rw [hun]; simp)] at B
        obtain ⟨Bc, Bf⟩ := B.open
        have zb := B.lt
        subst e
        have fin : (fun b a w9 => ∃ v5 v6 : Value, a = (Act.put (Act.put A0 (some 5) v5) (some 6) v6) ∧ Below u1.heap.size u1 w9 ∧ (b.getD 8 true = true → ∃ g, v5 = .pointer (some ⟨g, 0, none⟩) ∧ u1.heap.size ≤ g ∧ Blk w9 g (if b.getD 10 true = true then #[.int .i64 ea] else #[.int .i64 0]) 2) ∧ (b.getD 9 true = true → ∃ g, v6 = .pointer (some ⟨g, 0, none⟩) ∧ u1.heap.size ≤ g ∧ Blk w9 g (if b.getD 11 true = true then #[.int .i64 le] else #[.int .i64 0]) 2) ∧ (b.getD 8 true = true → b.getD 9 true = true → v5 ≠ v6) ∧ (b.getD 10 true = true → b.getD 8 true = true) ∧ (b.getD 11 true = true → b.getD 9 true = true)) (b.setIfInBounds 10 true) (Act.put (Act.put A0 (some 5) (.pointer (some ⟨g, 0, none⟩))) (some 6) v6) (w9.setCell ⟨g, 0, none⟩ (.int .i64 ea)) := by
          exact ⟨_, v6, rfl, Below.setCell hb (p := ⟨g, 0, none⟩) l _, (fun _ => ⟨g, rfl, l, by rw [if_pos (by simp [hib])]; exact B.set 0 (.int .i64 ea)⟩), (fun h => by have hs2 := got_set (by decide) h; obtain ⟨g2, e2, l2, B2⟩ := f9 hs2; exact ⟨g2, e2, l2, by rw [getD_set_ne true (by decide)]; exact B2.setOther (fun hh => (f89 hs hs2) (by rw [e2, hh])) _⟩), (fun h1 h2 => f89 (got_set (by decide) h1) (got_set (by decide) h2)), (fun _ => set_keepT hs), (fun h => set_keepT (c11 (got_set (by decide) h)))⟩
        have FIN := Lib.hid fin; clear fin
        refine inv_skip (by rw [hA0]; kernel_rfl) (w9.setCell ⟨g, 0, none⟩ (.int .i64 ea)) (by rw [hA0]; go_simp <;> with_reducible rfl) (Below.setCell hb (p := ⟨g, 0, none⟩) l _) ?_
        exact FIN.out
      · refine ⟨_, rfl, ?_⟩
        have hs := getD_tt (hd _ rfl ⟨9, .data⟩ (by simp) (by rfl))
        obtain ⟨g, e, l, B⟩ := f9 hs
        rw [if_neg (by rw [hun]; simp)] at B
        obtain ⟨Bc, Bf⟩ := B.open
        have zb := B.lt
        subst e
        have fin : (fun b a w9 => ∃ v5 v6 : Value, a = (Act.put (Act.put A0 (some 5) v5) (some 6) v6) ∧ Below u1.heap.size u1 w9 ∧ (b.getD 8 true = true → ∃ g, v5 = .pointer (some ⟨g, 0, none⟩) ∧ u1.heap.size ≤ g ∧ Blk w9 g (if b.getD 10 true = true then #[.int .i64 ea] else #[.int .i64 0]) 2) ∧ (b.getD 9 true = true → ∃ g, v6 = .pointer (some ⟨g, 0, none⟩) ∧ u1.heap.size ≤ g ∧ Blk w9 g (if b.getD 11 true = true then #[.int .i64 le] else #[.int .i64 0]) 2) ∧ (b.getD 8 true = true → b.getD 9 true = true → v5 ≠ v6) ∧ (b.getD 10 true = true → b.getD 8 true = true) ∧ (b.getD 11 true = true → b.getD 9 true = true)) (b.setIfInBounds 11 true) (Act.put (Act.put A0 (some 5) v5) (some 6) (.pointer (some ⟨g, 0, none⟩))) (w9.setCell ⟨g, 0, none⟩ (.int .i64 le)) := by
          exact ⟨v5, _, rfl, Below.setCell hb (p := ⟨g, 0, none⟩) l _, (fun h => by have hs2 := got_set (by decide) h; obtain ⟨g2, e2, l2, B2⟩ := f8 hs2; exact ⟨g2, e2, l2, by rw [getD_set_ne true (by decide)]; exact B2.setOther (fun hh => (f89 hs2 hs) (by rw [e2, hh])) _⟩), (fun _ => ⟨g, rfl, l, by rw [if_pos (by simp [hib])]; exact B.set 0 (.int .i64 le)⟩), (fun h1 h2 => f89 (got_set (by decide) h1) (got_set (by decide) h2)), (fun h => set_keepT (c10 (got_set (by decide) h))), (fun _ => set_keepT hs)⟩
        have FIN := Lib.hid fin; clear fin
        refine inv_skip (by rw [hA0]; kernel_rfl) (w9.setCell ⟨g, 0, none⟩ (.int .i64 le)) (by rw [hA0]; go_simp <;> with_reducible rfl) (Below.setCell hb (p := ⟨g, 0, none⟩) l _) ?_
        exact FIN.out
    intro a w9 hI
    obtain ⟨v5, v6, rfl, hb, f8, f9, f89, _, _⟩ := hI
    obtain ⟨g, e5, lg, E⟩ := f8 (by rfl)
    obtain ⟨h, e6, lh, L⟩ := f9 (by rfl)
    rw [if_pos (by rfl)] at E L
    clear f8 f9 f89
    subst e5; subst e6
    rw [hA0]; simp only [Act.put, List.setIfInBounds_toArray, List.set_cons_zero, List.set_cons_succ, List.getElem_toArray, List.getElem_cons_zero, List.getElem_cons_succ]
    clear hA0
    replace hb : Below u1.heap.size u1 w9 := hb
    replace H := H.later hb
    replace HB := Lib.hid (HB.out.trans (hb.mono HB.out.size))
    clear hb
    change wpList _ _ _ _ _ _
    simp only [List.drop_succ_cons, List.drop_zero]
    go_upto_region 2 with (fail)
    refine NoPanic.normal ?_
    obtain ⟨Hc, Hf⟩ := H.open
    go_upto_region 3 with (fail)
    have V := Blk.new w9 #[.func (.func 109) #[] #[.pointer (some ⟨g, 0, none⟩), .pointer (some ⟨h, 0, none⟩)]] 146
    have q := below_new w9 (.cells #[.func (.func 109) #[] #[.pointer (some ⟨g, 0, none⟩), .pointer (some ⟨h, 0, none⟩)]] 146)
    clear Hc Hf
    replace H := H.later q
    replace E := E.later q
    replace L := L.later q
    replace HB := Lib.hid (HB.out.trans (q.mono HB.out.size))
    clear q
    obtain ⟨Hc, Hf⟩ := H.open
    obtain ⟨gf, hgf⟩ : ∃ z, z = w9.heap.size := ⟨_, rfl⟩
    rw [← hgf] at V
    (try simp only [← hgf])
    clear hgf
    generalize w9.alloc (.cells #[.func (.func 109) #[] #[.pointer (some ⟨g, 0, none⟩), .pointer (some ⟨h, 0, none⟩)]] 146) = w10 at *
    go_wp2_with fail
    have HBS := HB.out.size
    refine (implListBySV n wk HZZ.out 111 #[] #[.pointer (some ⟨gf, 0, none⟩)] (stripG hi wk) w10 (by omega) (by exact ⟨_, rfl, by kernel_rfl, by kernel_rfl⟩) (fun i hi_ w' hw' => (show Calls _ _ #[.int .i64 (i : Int), .pointer (some ⟨gf, 0, none⟩)] _ _ from implStripK (i : Int) ea le g h gf w' (V.later hw') (E.later hw') (L.later hw') (by omega) (by omega) (by omega) (by omega) (by omega) (by omega)).mono (fun e w'' ⟨h9, q9⟩ => ⟨by rw [h9, HSG.out], q9⟩))).mono ?_
    rintro r w11 ⟨gl, rfl, O, q⟩
    clear Hc Hf
    replace H := H.later q
    replace E := E.later q
    replace L := L.later q
    replace HB := Lib.hid (HB.out.trans (q.mono HB.out.size))
    clear q
    go_wp2
    go_ret
    exact ⟨gl, n, rfl, by simp, O.lower HBS, HB.out⟩

  · skip
    have HZZ : Hid (hi = (n : Int)) := Lib.hid (by rw [HNN.out, if_neg hk])
    clear HNN
    have H := Blk.new w #[.int .i64 wd, .int .i64 hi, .bool wb] 80
    have HB : Hid (Below w.heap.size w (w.alloc (.cells #[.int .i64 wd, .int .i64 hi, .bool wb] 80))) := Lib.hid ((Below.refl w.heap.size w).alloc (by simp <;> omega) _)
    go_enter Try.func69, Try.ntmps69
    go_upto_region 1 with (fail)
    generalize (w.alloc (.cells #[.int .i64 wd, .int .i64 hi, .bool wb] 80)) = u1 at *
    have HBU := HB.out; have zu := HBU.size; have zh := H.lt
    obtain ⟨Hc, Hf⟩ := H.open
    refine wp_region_noPanic ?_
    refine wp_region_inv (Grows u1) 12 [0, 1, 2, 3, 4, 5, 6, 7] [8, 9, 10, 11] (by kernel_rfl) (by kernel_rfl) (fun _ _ _ _ _ h => h) (Grows.drew _) ?_
    (refine itake_plain rfl (by kernel_rfl) ?_ ?_ ?_; rotate_left; focus (intro w9 _; go_simp <;> with_reducible rfl)); (simp only [Act.put, List.setIfInBounds_toArray, List.set_cons_zero, List.set_cons_succ, List.getElem_toArray, List.getElem_cons_zero, List.getElem_cons_succ])
    (refine itake_load rfl (by kernel_rfl) (⟨w.heap.size, 1, none⟩) (by kernel_rfl) (.int .i64 hi) (load_cell ai64 (Hc 1)) ?_; simp only [Act.put, List.setIfInBounds_toArray, List.set_cons_zero, List.set_cons_succ, List.getElem_toArray, List.getElem_cons_zero, List.getElem_cons_succ])
    (refine itake_plain rfl (by kernel_rfl) ?_ ?_ ?_; rotate_left; focus (intro w9 _; go_simp <;> with_reducible rfl)); (simp only [Act.put, List.setIfInBounds_toArray, List.set_cons_zero, List.set_cons_succ, List.getElem_toArray, List.getElem_cons_zero, List.getElem_cons_succ])
    (refine itake_plain rfl (by kernel_rfl) ?_ ?_ ?_; rotate_left; focus (intro w9 _; go_simp <;> with_reducible rfl)); (simp only [Act.put, List.setIfInBounds_toArray, List.set_cons_zero, List.set_cons_succ, List.getElem_toArray, List.getElem_cons_zero, List.getElem_cons_succ])
    simp only [HQ2.out]
    (refine itake_plain rfl (by kernel_rfl) ?_ ?_ ?_; rotate_left; focus (intro w9 _; go_simp <;> with_reducible rfl)); (simp only [Act.put, List.setIfInBounds_toArray, List.set_cons_zero, List.set_cons_succ, List.getElem_toArray, List.getElem_cons_zero, List.getElem_cons_succ])
    (refine itake_load rfl (by kernel_rfl) (⟨w.heap.size, 1, none⟩) (by kernel_rfl) (.int .i64 hi) (load_cell ai64 (Hc 1)) ?_; simp only [Act.put, List.setIfInBounds_toArray, List.set_cons_zero, List.set_cons_succ, List.getElem_toArray, List.getElem_cons_zero, List.getElem_cons_succ])
    (refine itake_plain rfl (by kernel_rfl) ?_ ?_ ?_; rotate_left; focus (intro w9 _; go_simp <;> with_reducible rfl)); (simp only [Act.put, List.setIfInBounds_toArray, List.set_cons_zero, List.set_cons_succ, List.getElem_toArray, List.getElem_cons_zero, List.getElem_cons_succ])
    (refine itake_plain rfl (by kernel_rfl) ?_ ?_ ?_; rotate_left; focus (intro w9 _; go_simp <;> with_reducible rfl)); (simp only [Act.put, List.setIfInBounds_toArray, List.set_cons_zero, List.set_cons_succ, List.getElem_toArray, List.getElem_cons_zero, List.getElem_cons_succ])
    simp only [HR2.out]
    intro A0 hA0
    refine ⟨fun b a w9 => ∃ v5 v6 : Value, a = (Act.put (Act.put A0 (some 5) v5) (some 6) v6) ∧ Below u1.heap.size u1 w9 ∧ (b.getD 8 true = true → ∃ g, v5 = .pointer (some ⟨g, 0, none⟩) ∧ u1.heap.size ≤ g ∧ Blk w9 g (if b.getD 10 true = true then #[.int .i64 ea] else #[.int .i64 0]) 2) ∧ (b.getD 9 true = true → ∃ g, v6 = .pointer (some ⟨g, 0, none⟩) ∧ u1.heap.size ≤ g ∧ Blk w9 g (if b.getD 11 true = true then #[.int .i64 le] else #[.int .i64 0]) 2) ∧ (b.getD 8 true = true → b.getD 9 true = true → v5 ≠ v6) ∧ (b.getD 10 true = true → b.getD 8 true = true) ∧ (b.getD 11 true = true → b.getD 9 true = true), ?_, ?_, ?_, ?_⟩
    · rintro b a w9 ⟨_, _, _, hb, _⟩; exact hb
    · exact ⟨undef, undef, by rw [hA0]; kernel_rfl, Grows.drew _, (fun h => by cases h), (fun h => by cases h), (fun h => by cases h), (fun h => by cases h), (fun h => by cases h)⟩
    · intro i hi_ b a w9 hib hd hun hI
      obtain ⟨v5, v6, rfl, hb, f8, f9, f89, c10, c11⟩ := hI
      simp only [List.mem_cons, List.mem_nil_iff, or_false] at hi_
      rcases hi_ with rfl | rfl | rfl | rfl
      · refine ⟨_, rfl, ?_⟩
        have q := below_new w9 (.cells #[.int .i64 0] 2)
        have sz := q.size; have hbs := Below.size hb
        refine inv_make (by rw [hA0]; kernel_rfl) (.pointer (some ⟨w9.heap.size, 0, none⟩)) (w9.alloc (.cells #[.int .i64 0] 2)) (by rw [hA0]; go_simp <;> with_reducible rfl) (Grows.next hb q) ?_
        obtain ⟨v', hv⟩ : ∃ v' : Value, v' = .pointer (some ⟨w9.heap.size, 0, none⟩) := ⟨_, rfl⟩
        rw [← hv]
        exact ⟨v', v6, by rw [hA0]; kernel_rfl, Grows.next hb q, (fun _ => ⟨_, hv, hbs, by rw [if_neg (fun h => absurd (c10 (got_set (by decide) h)) (by rw [hun]; simp))]; exact Blk.new w9 _ _⟩), (fun h => by obtain ⟨g, e, l, B⟩ := f9 (got_set (by decide) h); exact ⟨g, e, l, by rw [getD_set_ne true (by decide)]; exact B.later q⟩), (fun h1 h2 => by obtain ⟨g, e, l, B⟩ := f9 (got_set (by decide) h2); have := B.lt; rw [e, hv]; intro h; simp only [Value.pointer.injEq, Option.some.injEq, Addr.mk.injEq] at h; omega), (fun h => set_keepT (c10 (got_set (by decide) h))), (fun h => set_keepT (c11 (got_set (by decide) h)))⟩
      · refine ⟨_, rfl, ?_⟩
        have q := below_new w9 (.cells #[.int .i64 0] 2)
        have sz := q.size; have hbs := Below.size hb
        refine inv_make (by rw [hA0]; kernel_rfl) (.pointer (some ⟨w9.heap.size, 0, none⟩)) (w9.alloc (.cells #[.int .i64 0] 2)) (by rw [hA0]; go_simp <;> with_reducible rfl) (Grows.next hb q) ?_
        obtain ⟨v', hv⟩ : ∃ v' : Value, v' = .pointer (some ⟨w9.heap.size, 0, none⟩) := ⟨_, rfl⟩
        rw [← hv]
        exact ⟨v5, v', by rw [hA0]; kernel_rfl, Grows.next hb q, (fun h => by obtain ⟨g, e, l, B⟩ := f8 (got_set (by decide) h); exact ⟨g, e, l, by rw [getD_set_ne true (by decide)]; exact B.later q⟩), (fun _ => ⟨_, hv, hbs, by rw [if_neg (fun h => absurd (c11 (got_set (by decide) h)) (by rw [hun]; simp))]; exact Blk.new w9 _ _⟩), (fun h1 h2 => by obtain ⟨g, e, l, B⟩ := f8 (got_set (by decide) h1); have := B.lt; rw [e, hv]; intro h; simp only [Value.pointer.injEq, Option.some.injEq, Addr.mk.injEq] at h; omega), (fun h => set_keepT (c10 (got_set (by decide) h))), (fun h => set_keepT (c11 (got_set (by decide) h)))⟩
      · refine ⟨_, rfl, ?_⟩
        have hs := getD_tt (hd _ rfl ⟨8, .data⟩ (by simp) (by rfl))
        obtain ⟨g, e, l, B⟩ := f8 hs
        rw [if_neg (by rw [hun]; simp)] at B
        obtain ⟨Bc, Bf⟩ := B.open
        have zb := B.lt
        subst e
        have fin : (fun b a w9 => ∃ v5 v6 : Value, a = (Act.put (Act.put A0 (some 5) v5) (some 6) v6) ∧ Below u1.heap.size u1 w9 ∧ (b.getD 8 true = true → ∃ g, v5 = .pointer (some ⟨g, 0, none⟩) ∧ u1.heap.size ≤ g ∧ Blk w9 g (if b.getD 10 true = true then #[.int .i64 ea] else #[.int .i64 0]) 2) ∧ (b.getD 9 true = true → ∃ g, v6 = .pointer (some ⟨g, 0, none⟩) ∧ u1.heap.size ≤ g ∧ Blk w9 g (if b.getD 11 true = true then #[.int .i64 le] else #[.int .i64 0]) 2) ∧ (b.getD 8 true = true → b.getD 9 true = true → v5 ≠ v6) ∧ (b.getD 10 true = true → b.getD 8 true = true) ∧ (b.getD 11 true = true → b.getD 9 true = true)) (b.setIfInBounds 10 true) (Act.put (Act.put A0 (some 5) (.pointer (some ⟨g, 0, none⟩))) (some 6) v6) (w9.setCell ⟨g, 0, none⟩ (.int .i64 ea)) := by
          exact ⟨_, v6, rfl, Below.setCell hb (p := ⟨g, 0, none⟩) l _, (fun _ => ⟨g, rfl, l, by rw [if_pos (by simp [hib])]; exact B.set 0 (.int .i64 ea)⟩), (fun h => by have hs2 := got_set (by decide) h; obtain ⟨g2, e2, l2, B2⟩ := f9 hs2; exact ⟨g2, e2, l2, by rw [getD_set_ne true (by decide)]; exact B2.setOther (fun hh => (f89 hs hs2) (by rw [e2, hh])) _⟩), (fun h1 h2 => f89 (got_set (by decide) h1) (got_set (by decide) h2)), (fun _ => set_keepT hs), (fun h => set_keepT (c11 (got_set (by decide) h)))⟩
        have FIN := Lib.hid fin; clear fin
        refine inv_skip (by rw [hA0]; kernel_rfl) (w9.setCell ⟨g, 0, none⟩ (.int .i64 ea)) (by rw [hA0]; go_simp <;> with_reducible rfl) (Below.setCell hb (p := ⟨g, 0, none⟩) l _) ?_
        exact FIN.out
      · refine ⟨_, rfl, ?_⟩
        have hs := getD_tt (hd _ rfl ⟨9, .data⟩ (by simp) (by rfl))
        obtain ⟨g, e, l, B⟩ := f9 hs
        rw [if_neg (by rw [hun]; simp)] at B
        obtain ⟨Bc, Bf⟩ := B.open
        have zb := B.lt
        subst e
        have fin : (fun b a w9 => ∃ v5 v6 : Value, a = (Act.put (Act.put A0 (some 5) v5) (some 6) v6) ∧ Below u1.heap.size u1 w9 ∧ (b.getD 8 true = true → ∃ g, v5 = .pointer (some ⟨g, 0, none⟩) ∧ u1.heap.size ≤ g ∧ Blk w9 g (if b.getD 10 true = true then #[.int .i64 ea] else #[.int .i64 0]) 2) ∧ (b.getD 9 true = true → ∃ g, v6 = .pointer (some ⟨g, 0, none⟩) ∧ u1.heap.size ≤ g ∧ Blk w9 g (if b.getD 11 true = true then #[.int .i64 le] else #[.int .i64 0]) 2) ∧ (b.getD 8 true = true → b.getD 9 true = true → v5 ≠ v6) ∧ (b.getD 10 true = true → b.getD 8 true = true) ∧ (b.getD 11 true = true → b.getD 9 true = true)) (b.setIfInBounds 11 true) (Act.put (Act.put A0 (some 5) v5) (some 6) (.pointer (some ⟨g, 0, none⟩))) (w9.setCell ⟨g, 0, none⟩ (.int .i64 le)) := by
          exact ⟨v5, _, rfl, Below.setCell hb (p := ⟨g, 0, none⟩) l _, (fun h => by have hs2 := got_set (by decide) h; obtain ⟨g2, e2, l2, B2⟩ := f8 hs2; exact ⟨g2, e2, l2, by rw [getD_set_ne true (by decide)]; exact B2.setOther (fun hh => (f89 hs2 hs) (by rw [e2, hh])) _⟩), (fun _ => ⟨g, rfl, l, by rw [if_pos (by simp [hib])]; exact B.set 0 (.int .i64 le)⟩), (fun h1 h2 => f89 (got_set (by decide) h1) (got_set (by decide) h2)), (fun h => set_keepT (c10 (got_set (by decide) h))), (fun _ => set_keepT hs)⟩
        have FIN := Lib.hid fin; clear fin
        refine inv_skip (by rw [hA0]; kernel_rfl) (w9.setCell ⟨g, 0, none⟩ (.int .i64 le)) (by rw [hA0]; go_simp <;> with_reducible rfl) (Below.setCell hb (p := ⟨g, 0, none⟩) l _) ?_
        exact FIN.out
    intro a w9 hI
    obtain ⟨v5, v6, rfl, hb, f8, f9, f89, _, _⟩ := hI
    obtain ⟨g, e5, lg, E⟩ := f8 (by rfl)
    obtain ⟨h, e6, lh, L⟩ := f9 (by rfl)
    rw [if_pos (by rfl)] at E L
    clear f8 f9 f89
    subst e5; subst e6
    rw [hA0]; simp only [Act.put, List.setIfInBounds_toArray, List.set_cons_zero, List.set_cons_succ, List.getElem_toArray, List.getElem_cons_zero, List.getElem_cons_succ]
    clear hA0
    replace hb : Below u1.heap.size u1 w9 := hb
    replace H := H.later hb
    replace HB := Lib.hid (HB.out.trans (hb.mono HB.out.size))
    clear hb
    change wpList _ _ _ _ _ _
    simp only [List.drop_succ_cons, List.drop_zero]
    go_upto_region 2 with (fail)
    refine NoPanic.normal ?_
    obtain ⟨Hc, Hf⟩ := H.open
    go_upto_region 3 with (fail)
    have V := Blk.new w9 #[.func (.func 109) #[] #[.pointer (some ⟨g, 0, none⟩), .pointer (some ⟨h, 0, none⟩)]] 146
    have q := below_new w9 (.cells #[.func (.func 109) #[] #[.pointer (some ⟨g, 0, none⟩), .pointer (some ⟨h, 0, none⟩)]] 146)
    clear Hc Hf
    replace H := H.later q
    replace E := E.later q
    replace L := L.later q
    replace HB := Lib.hid (HB.out.trans (q.mono HB.out.size))
    clear q
    obtain ⟨Hc, Hf⟩ := H.open
    obtain ⟨gf, hgf⟩ : ∃ z, z = w9.heap.size := ⟨_, rfl⟩
    rw [← hgf] at V
    (try simp only [← hgf])
    clear hgf
    generalize w9.alloc (.cells #[.func (.func 109) #[] #[.pointer (some ⟨g, 0, none⟩), .pointer (some ⟨h, 0, none⟩)]] 146) = w10 at *
    go_wp2_with fail
    have HBS := HB.out.size
    refine (implListBySV n hi HZZ.out 111 #[] #[.pointer (some ⟨gf, 0, none⟩)] (stripG hi wk) w10 (by omega) (by exact ⟨_, rfl, by kernel_rfl, by kernel_rfl⟩) (fun i hi_ w' hw' => (show Calls _ _ #[.int .i64 (i : Int), .pointer (some ⟨gf, 0, none⟩)] _ _ from implStripK (i : Int) ea le g h gf w' (V.later hw') (E.later hw') (L.later hw') (by omega) (by omega) (by omega) (by omega) (by omega) (by omega)).mono (fun e w'' ⟨h9, q9⟩ => ⟨by rw [h9, HSG.out], q9⟩))).mono ?_
    rintro r w11 ⟨gl, rfl, O, q⟩
    clear Hc Hf
    replace H := H.later q
    replace E := E.later q
    replace L := L.later q
    replace HB := Lib.hid (HB.out.trans (q.mono HB.out.size))
    clear q
    go_wp2
    go_ret
    exact ⟨gl, n, rfl, by simp, O.lower HBS, HB.out⟩

theorem implAreWorkers (wk : Int) (w : World) : Calls Try.prog 68 #[.int .i64 wk] w fun e w' => e = .returned (.bool (decide (1 ≤ wk ∧ wk ≤ 8))) ∧ w = w' := by
  by_cases h1 : 1 ≤ wk
  · have d1 : decide (1 ≤ wk) = true := decide_eq_true h1
    rw [show decide (1 ≤ wk ∧ wk ≤ 8) = decide (wk ≤ 8) by rw [decide_eq_decide]; omega]
    go_enter Try.func68, Try.ntmps68
    go_wp2
    go_ret
    exact ⟨rfl, rfl⟩
  · have d1 : decide (1 ≤ wk) = false := decide_eq_false h1
    rw [show decide (1 ≤ wk ∧ wk ≤ 8) = false by rw [decide_eq_false]; omega]
    go_enter Try.func68, Try.ntmps68
    go_wp2
    go_ret
    exact ⟨rfl, rfl⟩

set_option maxHeartbeats 8000000 in
set_option maxRecDepth 100000 in
theorem implStripsOfL (wd hi : Int) (wb : Bool) (a b : Option Addr) (ca cb : Nat) (xs ys : List Nat) (wk : Int) (w : World) (ha : RowV w a (fvals xs)) (hb : RowV w b (fvals ys)) (qa : ∀ z ∈ xs, z < 2 ^ 32) (qb : ∀ z ∈ ys, z < 2 ^ 32) (hx : xs.length ≤ maxLen) (hy : ys.length ≤ maxLen) (wf : (Lit.int .i64 wk).wf = true) :
    Calls Try.prog 27 #[.agg #[.int .i64 wd, .int .i64 hi, .bool wb, .slice a xs.length ca, .slice b ys.length cb], .int .i64 wk] w (GaveT2 w (stripsB wd hi xs ys wk) (stripsL hi wk)) := by
  rcases hv : validB wd hi xs ys with _ | _
  · skip
    rw [show stripsB wd hi xs ys wk = false from by unfold stripsB; rw [hv]; rfl]
    have H_v := Lib.hid hv; clear hv
    have X := Blk.new w #[.int .i64 wd, .int .i64 hi, .bool wb, .slice a xs.length ca, .slice b ys.length cb] 29
    have HB : Hid (Below w.heap.size w (w.alloc (.cells #[.int .i64 wd, .int .i64 hi, .bool wb, .slice a xs.length ca, .slice b ys.length cb] 29))) := Lib.hid ((Below.refl w.heap.size w).alloc (by simp <;> omega) _)
    go_enter Try.func27, Try.ntmps27
    go_wp2_with fail
    generalize (w.alloc (.cells #[.int .i64 wd, .int .i64 hi, .bool wb, .slice a xs.length ca, .slice b ys.length cb] 29)) = u1 at *
    refine (implValidSheet _ _ _ _ _ _ _ _ _ _ (ha.later HB.out) (hb.later HB.out) hx hy).mono ?_
    rintro r u2 ⟨rfl, q⟩
    replace X := X.later q
    replace HB := Lib.hid (HB.out.trans (q.mono HB.out.size))
    clear q
    rw [H_v.out]
    go_wp2
    go_ret2
    exact ⟨none, 0, [], rfl, GotPairs.none HB.out⟩
  obtain ⟨s1, s2, s3, s4, _, _, _⟩ := valid_parts hv
  have HBB : Hid (stripsB wd hi xs ys wk = decide (1 ≤ wk ∧ wk ≤ 8)) := Lib.hid (by unfold stripsB; rw [hv]; rfl)
  have H_v := Lib.hid hv; clear hv
  rw [HBB.out]
  rcases hw : decide (1 ≤ wk ∧ wk ≤ 8) with _ | _
  · skip
    have HW := Lib.hid hw; clear hw
    have X := Blk.new w #[.int .i64 wd, .int .i64 hi, .bool wb, .slice a xs.length ca, .slice b ys.length cb] 29
    have HB : Hid (Below w.heap.size w (w.alloc (.cells #[.int .i64 wd, .int .i64 hi, .bool wb, .slice a xs.length ca, .slice b ys.length cb] 29))) := Lib.hid ((Below.refl w.heap.size w).alloc (by simp <;> omega) _)
    go_enter Try.func27, Try.ntmps27
    go_wp2_with fail
    generalize (w.alloc (.cells #[.int .i64 wd, .int .i64 hi, .bool wb, .slice a xs.length ca, .slice b ys.length cb] 29)) = u1 at *
    refine (implValidSheet _ _ _ _ _ _ _ _ _ _ (ha.later HB.out) (hb.later HB.out) hx hy).mono ?_
    rintro r u2 ⟨rfl, q⟩
    replace X := X.later q
    replace HB := Lib.hid (HB.out.trans (q.mono HB.out.size))
    clear q
    rw [H_v.out]
    go_wp2_with fail
    refine (implAreWorkers _ _).mono ?_
    rintro r w9 ⟨rfl, rfl⟩
    rw [HW.out]
    go_wp2
    go_ret2
    exact ⟨none, 0, [], rfl, GotPairs.none HB.out⟩
  · skip
    obtain ⟨k1, k2⟩ := of_decide_eq_true hw
    have HW := Lib.hid hw; clear hw
    have X := Blk.new w #[.int .i64 wd, .int .i64 hi, .bool wb, .slice a xs.length ca, .slice b ys.length cb] 29
    have HB : Hid (Below w.heap.size w (w.alloc (.cells #[.int .i64 wd, .int .i64 hi, .bool wb, .slice a xs.length ca, .slice b ys.length cb] 29))) := Lib.hid ((Below.refl w.heap.size w).alloc (by simp <;> omega) _)
    go_enter Try.func27, Try.ntmps27
    go_wp2_with fail
    generalize (w.alloc (.cells #[.int .i64 wd, .int .i64 hi, .bool wb, .slice a xs.length ca, .slice b ys.length cb] 29)) = u1 at *
    refine (implValidSheet _ _ _ _ _ _ _ _ _ _ (ha.later HB.out) (hb.later HB.out) hx hy).mono ?_
    rintro r u2 ⟨rfl, q⟩
    replace X := X.later q
    replace HB := Lib.hid (HB.out.trans (q.mono HB.out.size))
    clear q
    rw [H_v.out]
    go_wp2_with fail
    refine (implAreWorkers _ _).mono ?_
    rintro r w9 ⟨rfl, rfl⟩
    rw [HW.out]
    obtain ⟨Xc, Xf⟩ := X.open
    go_wp2_with fail
    refine (implShapeOf _ _ _ _ _ _ _ _ _ _).mono ?_
    rintro r u3 ⟨rfl, q⟩
    clear Xc Xf
    replace X := X.later q
    replace HB := Lib.hid (HB.out.trans (q.mono HB.out.size))
    clear q
    go_wp2_with fail
    have HBS := HB.out.size
    refine (implStripsH wd hi wk wb _ s3 s4 k1 k2).mono ?_
    rintro r u4 ⟨g, n, rfl, HNL, O, q⟩
    replace X := X.later q
    replace HB := Lib.hid (HB.out.trans (q.mono HB.out.size))
    clear q
    go_wp2
    go_ret2
    have hl : (stripsL hi wk).length ≤ 256 := by unfold stripsL; rw [List.length_map, List.length_range]; split <;> omega
    exact ⟨some ⟨g, 0, none⟩, n, stripsL hi wk, by rw [HNL]; rfl, ⟨O.lower HBS, ⟨rfl, hl⟩, HB.out⟩⟩

theorem strips_snoc {hi wk : Int} {k : Nat} (h0 : 3 ≤ hi) (h2 : (k : Int) + 1 ≤ wk) (h3 : (k : Int) < hi) : (List.range (if (k : Int) + 1 ≤ hi then (k : Int) + 1 else hi).toNat).map (stripG hi wk) = (List.range (if (k : Int) ≤ hi then (k : Int) else hi).toNat).map (stripG hi wk) ++ [stripG hi wk k] := by
  rw [if_pos (by omega), if_pos (by omega), show ((k : Int) + 1).toNat = k + 1 by omega, Int.toNat_natCast, List.range_succ, List.map_append]
  rfl
theorem strips_same {hi : Int} {k : Nat} {G : Nat → Int × Int} (h3 : hi ≤ (k : Int)) : (List.range (if (k : Int) + 1 ≤ hi then (k : Int) + 1 else hi).toNat).map G = (List.range (if (k : Int) ≤ hi then (k : Int) else hi).toNat).map G := by
  rw [if_neg (by omega)]
  by_cases h : (k : Int) ≤ hi
  · rw [if_pos h, show (k : Int) = hi by omega]
  · rw [if_neg h]
theorem strip_pos {hi wk : Int} {k : Nat} (h0 : 3 ≤ hi) (h1 : 1 ≤ wk) (hk : (k : Int) < wk) : (0 < hi / wk + (if (k : Int) < hi % wk then 1 else 0)) ↔ (k : Int) < hi := by
  have e := Int.mul_ediv_add_emod hi wk
  have l0 := Int.emod_nonneg hi (show wk ≠ 0 by omega)
  have l1 := Int.emod_lt_of_pos hi (show 0 < wk by omega)
  have e0 : 0 ≤ hi / wk := Int.ediv_nonneg (by omega) (by omega)
  by_cases hw : wk ≤ hi
  · have : 1 ≤ hi / wk := (Int.le_ediv_iff_mul_le (by omega)).2 (by omega)
    constructor
    · intro _; omega
    · intro _; split <;> omega
  · have e1 : hi / wk = 0 := Int.ediv_eq_zero_of_lt (by omega) (by omega)
    have e2 : hi % wk = hi := Int.emod_eq_of_lt (by omega) (by omega)
    rw [e1, e2]
    split <;> omega

set_option maxHeartbeats 8000000 in
set_option maxRecDepth 100000 in
theorem specStrips (hi wk : Int) (w : World) (s3 : 3 ≤ hi) (s4 : hi ≤ 16) (k1 : 1 ≤ wk) (k2 : wk ≤ 8) :
    Calls Try.prog 67 #[.int .i64 hi, .int .i64 wk] w fun e w' => ∃ a c, e = .returned (.slice a (stripsL hi wk).length c) ∧ OwnV w' w.heap.size a (pvals (stripsL hi wk)) ∧ Below w.heap.size w w' := by
  obtain ⟨N, hN⟩ := Int.eq_ofNat_of_zero_le (show 0 ≤ wk by omega)
  obtain ⟨ti, hi0, hz0, hz1, hz2⟩ := info_parts Try.infoStrip
  have HI := Lib.hid hi0; have HZ0 := Lib.hid hz0; have HZ1 := Lib.hid hz1; have HZ2 := Lib.hid hz2; clear hi0 hz0 hz1 hz2
  have hne : (wk == 0) = false := by simp; omega
  have hz : wk ≠ 0 := by omega
  have e0 : 0 ≤ hi / wk := Int.ediv_nonneg (by omega) (by omega)
  have e1 : hi / wk ≤ hi := Int.ediv_le_self _ (by omega)
  have l0 : 0 ≤ hi % wk := Int.emod_nonneg _ hz
  have l1 : hi % wk < wk := Int.emod_lt_of_pos _ (by omega)
  have HQ2 : Hid (IntKind.i64.wrap (hi.tdiv wk) = hi / wk) := Lib.hid (by rw [Int.tdiv_eq_ediv_of_nonneg (by omega)]; exact IntWalk.i64_in _ (by omega))
  have HR2 : Hid (hi.tmod wk = hi % wk) := Lib.hid (Int.tmod_eq_emod_of_nonneg (by omega))
  have HSL : Hid (stripsL hi wk = (List.range (if (N : Int) ≤ hi then (N : Int) else hi).toNat).map (stripG hi wk)) := Lib.hid (by unfold stripsL; rw [← hN])
  have HSN : Hid (∀ k : Nat, (k : Int) + 1 ≤ wk → (k : Int) < hi → (List.range (if (k : Int) + 1 ≤ hi then (k : Int) + 1 else hi).toNat).map (stripG hi wk) = (List.range (if (k : Int) ≤ hi then (k : Int) else hi).toNat).map (stripG hi wk) ++ [stripG hi wk k]) := Lib.hid (fun k h1 h2 => strips_snoc s3 h1 h2)
  have HPO : Hid (∀ k : Nat, (k : Int) < wk → ((0 < hi / wk + (if (k : Int) < hi % wk then 1 else 0)) ↔ (k : Int) < hi)) := Lib.hid (fun k h => strip_pos s3 k1 h)
  have HFN : Hid (∀ k : Nat, firstI (hi / wk) (hi % wk) ((k : Int) + 1) = firstI (hi / wk) (hi % wk) (k : Int) + (hi / wk + (if (k : Int) < hi % wk then 1 else 0))) := Lib.hid (fun k => by have := first_next (hi / wk) (hi % wk) (k : Int); omega)
  have HSG : Hid (∀ i : Nat, stripG hi wk i = (firstI (hi / wk) (hi % wk) (i : Int), firstI (hi / wk) (hi % wk) ((i : Int) + 1) - firstI (hi / wk) (hi % wk) (i : Int))) := Lib.hid (fun i => rfl)
  have HFI : Hid (∀ k : Nat, (k : Int) ≤ 16 → 0 ≤ firstI (hi / wk) (hi % wk) (k : Int) ∧ firstI (hi / wk) (hi % wk) (k : Int) ≤ 272) := Lib.hid (fun k hk => by have h9 := first_in (ea := hi / wk) (le := hi % wk) (k := (k : Int)) (by omega) hk e0 (by omega) l0 (by omega); exact ⟨h9.2.2.1, h9.2.2.2⟩)
  have HF0 : Hid (firstI (hi / wk) (hi % wk) 0 = 0) := Lib.hid (by unfold firstI; rw [Int.zero_mul, if_pos l0]; rfl)
  have HLL : Hid (∀ k : Nat, k = N → (List.range (if (k : Int) ≤ hi then (k : Int) else hi).toNat).map (stripG hi wk) = stripsL hi wk) := Lib.hid (fun k h => by rw [h, HSL.out])
  clear HSL
  generalize stripsL hi wk = LL at *
  generalize hi / wk = ea at *; generalize hi % wk = le at *
  have HN := Lib.hid hN; clear hN
  go_enter Try.func67, Try.ntmps67
  go_wp2
  go_loopw [5, 6, 7] (fun q fr iv wr => ∃ k : Nat, (k : Int) ≤ wk ∧ iv = .int .i64 k ∧ fr = .int .i64 (firstI ea le (k : Int)) ∧ OutsT 31 w wr q ((List.range (if (k : Int) ≤ hi then (k : Int) else hi).toNat).map (stripG hi wk))) (fun _ _ iv _ => wk.toNat - (intOf iv).toNat)
  case atStart => exact ⟨0, by omega, rfl, by rw [show ((0 : Nat) : Int) = 0 from rfl, HF0.out], by rw [show ((List.range (if ((0 : Nat) : Int) ≤ hi then ((0 : Nat) : Int) else hi).toNat).map (stripG hi wk)) = [] from by rw [if_pos (by omega)]; rfl]; exact outsT_start (Below.refl _ _)⟩
  case round =>
    obtain ⟨k, hk, rfl, rfl, O⟩ := hrel
    generalize hzs : (List.range (if (k : Int) ≤ hi then (k : Int) else hi).toNat).map (stripG hi wk) = zs at O
    have hzl : zs.length ≤ 16 := by rw [← hzs, List.length_map, List.length_range]; split <;> omega
    have HO := Lib.hid O; have HZS := Lib.hid hzs; clear O hzs
    by_cases hlt : (k : Int) < wk
    · skip
      have pp := HPO.out k hlt; have fn := HFN.out k; obtain ⟨fi0, fi1⟩ := HFI.out k (by omega)
      have hq2 := HQ2.out; have hr2 := HR2.out
      by_cases hc : (k : Int) < le
      · skip
        rw [if_pos hc] at pp fn
        have FN := Lib.hid fn; clear fn
        by_cases hh : (k : Int) < hi
        · skip
          have hn0 : 0 < ea + 1 := pp.2 hh
          clear pp
          generalize hff : firstI ea le (k : Int) = ff at *
          have HFF := Lib.hid hff; clear hff
          go_wp2_with (at_builtin; refine wpList_append_own _ rfl _ _ 46 rfl w.heap.size 31 ti (.agg #[.int .i64 0, .int .i64 0]) 2 16 Try.underlying46 HI.out HZ0.out HZ1.out HZ2.out rfl (by decide) _ _ _ rfl (HO.out.1.alloc _) ⟨wr.heap.size, 0, none⟩ 1 1 [.int .i64 ff, .int .i64 (ea + 1)] rfl rfl (oneT_news _ _ _ _) (oneT_cells _ _) (by unfold maxLen; omega) (by omega) (by have := HO.out.2.size; simp; omega) ?_; intro v' w9 hown' hgrow _)
          have H3 := Lib.hid (outsT_next (z := (ff, ea + 1)) HO.out hown' hgrow); clear hown' hgrow
          go_roundw
          case rel =>
            refine ⟨k + 1, by omega, by go_num, ?_, ?_⟩
            · rw [show ((k + 1 : Nat) : Int) = (k : Int) + 1 from rfl, FN.out]
            · rw [show ((k + 1 : Nat) : Int) = (k : Int) + 1 from rfl, HSN.out k (by omega) hh, HZS.out, HSG.out, FN.out, HFF.out, show ff + (ea + 1) - ff = ea + 1 by omega]; exact H3.out
          case measure => simp [intOf]; omega
        · skip
          have hn0 : ¬ (0 < ea + 1) := fun h => hh (pp.1 h)
          clear pp
          generalize hff : firstI ea le (k : Int) = ff at *
          have HFF := Lib.hid hff; clear hff
          go_wp2
          go_roundw
          case rel =>
            refine ⟨k + 1, by omega, by go_num, ?_, ?_⟩
            · rw [show ((k + 1 : Nat) : Int) = (k : Int) + 1 from rfl, FN.out]
            · rw [show ((k + 1 : Nat) : Int) = (k : Int) + 1 from rfl, strips_same (by omega), HZS.out]; exact HO.out
          case measure => simp [intOf]; omega
      · skip
        rw [if_neg hc] at pp fn
        rw [Int.add_zero] at pp fn
        have FN := Lib.hid fn; clear fn
        by_cases hh : (k : Int) < hi
        · skip
          have hn0 : 0 < ea := pp.2 hh
          clear pp
          generalize hff : firstI ea le (k : Int) = ff at *
          have HFF := Lib.hid hff; clear hff
          go_wp2_with (at_builtin; refine wpList_append_own _ rfl _ _ 46 rfl w.heap.size 31 ti (.agg #[.int .i64 0, .int .i64 0]) 2 16 Try.underlying46 HI.out HZ0.out HZ1.out HZ2.out rfl (by decide) _ _ _ rfl (HO.out.1.alloc _) ⟨wr.heap.size, 0, none⟩ 1 1 [.int .i64 ff, .int .i64 (ea)] rfl rfl (oneT_news _ _ _ _) (oneT_cells _ _) (by unfold maxLen; omega) (by omega) (by have := HO.out.2.size; simp; omega) ?_; intro v' w9 hown' hgrow _)
          have H3 := Lib.hid (outsT_next (z := (ff, ea)) HO.out hown' hgrow); clear hown' hgrow
          go_roundw
          case rel =>
            refine ⟨k + 1, by omega, by go_num, ?_, ?_⟩
            · rw [show ((k + 1 : Nat) : Int) = (k : Int) + 1 from rfl, FN.out]
            · rw [show ((k + 1 : Nat) : Int) = (k : Int) + 1 from rfl, HSN.out k (by omega) hh, HZS.out, HSG.out, FN.out, HFF.out, show ff + (ea) - ff = ea by omega]; exact H3.out
          case measure => simp [intOf]; omega
        · skip
          have hn0 : ¬ (0 < ea) := fun h => hh (pp.1 h)
          clear pp
          generalize hff : firstI ea le (k : Int) = ff at *
          have HFF := Lib.hid hff; clear hff
          go_wp2
          go_roundw
          case rel =>
            refine ⟨k + 1, by omega, by go_num, ?_, ?_⟩
            · rw [show ((k + 1 : Nat) : Int) = (k : Int) + 1 from rfl, FN.out]
            · rw [show ((k + 1 : Nat) : Int) = (k : Int) + 1 from rfl, strips_same (by omega), HZS.out]; exact HO.out
          case measure => simp [intOf]; omega
    · skip
      have hkn : k = N := by have := HN.out; omega
      obtain rfl : zs = LL := by rw [← HZS.out]; exact HLL.out k hkn
      clear hkn
      obtain ⟨a, c, e, OW, B⟩ := outsT_end HO.out
      have HE := Lib.hid e; clear e
      go_wp2
      go_ret
      exact ⟨a, ⟨c, by rw [← HE.out]; rfl⟩, OW, B⟩

set_option maxHeartbeats 8000000 in
set_option maxRecDepth 100000 in
theorem specStripsOfL (wd hi : Int) (wb : Bool) (a b : Option Addr) (ca cb : Nat) (xs ys : List Nat) (wk : Int) (w : World) (ha : RowV w a (fvals xs)) (hb : RowV w b (fvals ys)) (qa : ∀ z ∈ xs, z < 2 ^ 32) (qb : ∀ z ∈ ys, z < 2 ^ 32) (hx : xs.length ≤ maxLen) (hy : ys.length ≤ maxLen) (wf : (Lit.int .i64 wk).wf = true) :
    Calls Try.prog 26 #[.agg #[.int .i64 wd, .int .i64 hi, .bool wb, .slice a xs.length ca, .slice b ys.length cb], .int .i64 wk] w (GaveT2 w (stripsB wd hi xs ys wk) (stripsL hi wk)) := by
  rcases hv : validB wd hi xs ys with _ | _
  · skip
    rw [show stripsB wd hi xs ys wk = false from by unfold stripsB; rw [hv]; rfl]
    have H_v := Lib.hid hv; clear hv
    have X := Blk.new w #[.int .i64 wd, .int .i64 hi, .bool wb, .slice a xs.length ca, .slice b ys.length cb] 29
    have HB : Hid (Below w.heap.size w (w.alloc (.cells #[.int .i64 wd, .int .i64 hi, .bool wb, .slice a xs.length ca, .slice b ys.length cb] 29))) := Lib.hid ((Below.refl w.heap.size w).alloc (by simp <;> omega) _)
    go_enter Try.func26, Try.ntmps26
    go_wp2_with fail
    generalize (w.alloc (.cells #[.int .i64 wd, .int .i64 hi, .bool wb, .slice a xs.length ca, .slice b ys.length cb] 29)) = u1 at *
    refine (specIs _ _ _ _ _ _ _ _ _ _ _ X (ha.later HB.out) (hb.later HB.out) hx hy).mono ?_
    rintro r u2 ⟨rfl, nq, hw⟩
    have q : Below u1.heap.size u1 u2 := by rw [hw]; exact below_drewN (Below.refl _ _) _
    clear hw
    replace X := X.later q
    replace HB := Lib.hid (HB.out.trans (q.mono HB.out.size))
    clear q
    rw [H_v.out]
    go_wp2
    go_ret2
    exact ⟨none, 0, [], rfl, GotPairs.none HB.out⟩
  obtain ⟨s1, s2, s3, s4, _, _, _⟩ := valid_parts hv
  have HBB : Hid (stripsB wd hi xs ys wk = decide (1 ≤ wk ∧ wk ≤ 8)) := Lib.hid (by unfold stripsB; rw [hv]; rfl)
  have H_v := Lib.hid hv; clear hv
  rw [HBB.out]
  rcases hw : decide (1 ≤ wk ∧ wk ≤ 8) with _ | _
  · skip
    have HW := Lib.hid hw; clear hw
    have X := Blk.new w #[.int .i64 wd, .int .i64 hi, .bool wb, .slice a xs.length ca, .slice b ys.length cb] 29
    have HB : Hid (Below w.heap.size w (w.alloc (.cells #[.int .i64 wd, .int .i64 hi, .bool wb, .slice a xs.length ca, .slice b ys.length cb] 29))) := Lib.hid ((Below.refl w.heap.size w).alloc (by simp <;> omega) _)
    go_enter Try.func26, Try.ntmps26
    go_wp2_with fail
    generalize (w.alloc (.cells #[.int .i64 wd, .int .i64 hi, .bool wb, .slice a xs.length ca, .slice b ys.length cb] 29)) = u1 at *
    refine (specIs _ _ _ _ _ _ _ _ _ _ _ X (ha.later HB.out) (hb.later HB.out) hx hy).mono ?_
    rintro r u2 ⟨rfl, nq, hw⟩
    have q : Below u1.heap.size u1 u2 := by rw [hw]; exact below_drewN (Below.refl _ _) _
    clear hw
    replace X := X.later q
    replace HB := Lib.hid (HB.out.trans (q.mono HB.out.size))
    clear q
    rw [H_v.out]
    go_wp2_with fail
    refine (l00In_any _ _ _ _).mono ?_
    rintro r w9 ⟨rfl, rfl⟩
    rw [HW.out]
    go_wp2
    go_ret2
    exact ⟨none, 0, [], rfl, GotPairs.none HB.out⟩
  · skip
    obtain ⟨k1, k2⟩ := of_decide_eq_true hw
    have HW := Lib.hid hw; clear hw
    have X := Blk.new w #[.int .i64 wd, .int .i64 hi, .bool wb, .slice a xs.length ca, .slice b ys.length cb] 29
    have HB : Hid (Below w.heap.size w (w.alloc (.cells #[.int .i64 wd, .int .i64 hi, .bool wb, .slice a xs.length ca, .slice b ys.length cb] 29))) := Lib.hid ((Below.refl w.heap.size w).alloc (by simp <;> omega) _)
    go_enter Try.func26, Try.ntmps26
    go_wp2_with fail
    generalize (w.alloc (.cells #[.int .i64 wd, .int .i64 hi, .bool wb, .slice a xs.length ca, .slice b ys.length cb] 29)) = u1 at *
    refine (specIs _ _ _ _ _ _ _ _ _ _ _ X (ha.later HB.out) (hb.later HB.out) hx hy).mono ?_
    rintro r u2 ⟨rfl, nq, hw⟩
    have q : Below u1.heap.size u1 u2 := by rw [hw]; exact below_drewN (Below.refl _ _) _
    clear hw
    replace X := X.later q
    replace HB := Lib.hid (HB.out.trans (q.mono HB.out.size))
    clear q
    rw [H_v.out]
    go_wp2_with fail
    refine (l00In_any _ _ _ _).mono ?_
    rintro r w9 ⟨rfl, rfl⟩
    rw [HW.out]
    obtain ⟨Xc, Xf⟩ := X.open
    go_wp2_with fail
    have HBS := HB.out.size
    refine (specStrips hi wk _ s3 s4 k1 k2).mono ?_
    rintro r u3 ⟨a9, c9, rfl, O, q⟩
    clear Xc Xf
    replace X := X.later q
    replace HB := Lib.hid (HB.out.trans (q.mono HB.out.size))
    clear q
    go_wp2
    go_ret2
    have hl : (stripsL hi wk).length ≤ 256 := by unfold stripsL; rw [List.length_map, List.length_range]; split <;> omega
    exact ⟨a9, c9, stripsL hi wk, rfl, ⟨O.lower HBS, ⟨rfl, hl⟩, HB.out⟩⟩

end Go.Proofs.Ytedfbaeajofmnaa
