/- Several texts in one: facts on floats, lists, memory and the functions that the theorems beside this text use. Conditions: none beyond those of each theorem. -/
import Derived.Test.YthihemfegjaenaaBu23
import Derived.Test.YthihemfegjaenaaPlan
import Derived.Test.YthihemfegjaenaaHeldG
import Derived.Deep.RegionHeld3
import Derived.Test.YthihemfegjaenaaBu2
import Derived.Test.YthihemfegjaenaaBu0
import Derived.Test.YthihemfegjaenaaBu14

set_option linter.unusedVariables false

section

namespace Go.Proofs.Ythihemfegjaenaa
open Go Ieee Go.RowKit
set_option linter.unusedVariables false
set_option linter.unusedSimpArgs false

def timB (xs ys : List Nat) : Bool := lenB xs.length && decide (xs.length = ys.length)
def timC (xs ys : List Nat) (k : Nat) : Option Nat := fop .mul .f32 (canon .f32 (xs.getD k 0)) (canon .f32 (ys.getD k 0))

theorem row_cellN {w : World} {a : Option Addr} {xs : List Nat} {k : Nat} (h : RowV w a (fvals xs)) (hk : k < xs.length) : ∃ b o, a = some ⟨b, o, none⟩ ∧ w.cell? ⟨b, o + k, none⟩ = some (.float .f32 (xs.getD k 0)) := by
  obtain ⟨b, o, e, hc⟩ := h k _ (fvals_get hk)
  exact ⟨b, o, e, by rw [getD_get hk]; exact hc⟩

theorem implRecord (a : Option Addr) (n c : Nat) (w : World) (hn : n ≤ maxLen) : Calls Try.prog 101 #[.slice a n c] w fun e w' => e = .returned (.bool (lenB n)) ∧ w = w' := by
  unfold maxLen at hn
  go_enter Try.func101, Try.ntmps101
  go_wp2_with fail
  refine (implLength _ _).mono ?_
  rintro e w9 ⟨rfl, rfl⟩
  go_wp2
  go_ret
  exact ⟨rfl, rfl⟩

set_option maxHeartbeats 4000000 in
set_option maxRecDepth 100000 in
theorem implEach1 (gf ga gb ba oa ca bb ob cb n k : Nat) (xs ys : List Nat) (w : World) (G : Blk w gf #[.func (.func 71) #[] #[]] 97) (A : Blk w ga #[.slice (some ⟨ba, oa, none⟩) n ca] 22) (B : Blk w gb #[.slice (some ⟨bb, ob, none⟩) n cb] 22) (ha : RowV w (some ⟨ba, oa, none⟩) (fvals xs)) (hb : RowV w (some ⟨bb, ob, none⟩) (fvals ys)) (hx : xs.length = n) (hy : ys.length = n) (hk : k < n) (h64 : n ≤ 64) :
    Calls Try.prog 128 #[.int .i64 k, .pointer (some ⟨gf, 0, none⟩), .pointer (some ⟨ga, 0, none⟩), .pointer (some ⟨gb, 0, none⟩)] w fun e w' => ∃ v, e = .returned (.float .f32 v) ∧ canon .f32 v = timC xs ys k ∧ v < 2 ^ 32 ∧ Below w.heap.size w w' := by
  obtain ⟨ba', oa', e1, A0⟩ := row_cellN ha (show k < xs.length by omega)
  cases e1
  obtain ⟨bb', ob', e2, B0⟩ := row_cellN hb (show k < ys.length by omega)
  cases e2
  have HR : Hid (timC xs ys k = fop .mul .f32 (canon .f32 (xs.getD k 0)) (canon .f32 (ys.getD k 0))) := Lib.hid rfl
  clear hx hy ha hb
  generalize timC xs ys k = T at *
  generalize xs.getD k 0 = x at *
  generalize ys.getD k 0 = y at *
  have k0 : (0 : Int) ≤ (k : Int) := Int.natCast_nonneg k
  have k1 : (k : Int) < (n : Int) := by omega
  have aflt : ∀ w, (isAgg 36).run Try.prog w = .ok false w := fun w => by kernel_rfl
  have aslc : ∀ w, (isAgg 22).run Try.prog w = .ok false w := fun w => by kernel_rfl
  have afun : ∀ w, (isAgg 97).run Try.prog w = .ok false w := fun w => by kernel_rfl
  obtain ⟨Gc, Gf⟩ := G.open; obtain ⟨Ac, Af⟩ := A.open; obtain ⟨Bc, Bf⟩ := B.open
  go_enter Try.func128, Try.ntmps128
  go_upto_region 1 with (fail)
  refine wp_region_noPanic ?_
  refine wp_region_plan (Grows w) 10 [(0, true), (1, true), (2, true), (3, true), (4, true), (5, true), (6, true), (7, true), (8, true), (9, false)] (by kernel_rfl) (by kernel_rfl) (fun _ _ _ _ _ h => h) (Grows.drew _) ?_
  (refine plan_load rfl rfl (⟨gf, 0, none⟩) (by kernel_rfl) (.func (.func 71) #[] #[]) (load_cell afun (Gc 0)) ?_; simp only [Act.put, List.setIfInBounds_toArray, List.set_cons_zero, List.set_cons_succ])
  (refine plan_load rfl rfl (⟨ga, 0, none⟩) (by kernel_rfl) (.slice (some ⟨ba, oa, none⟩) n ca) (load_cell aslc (Ac 0)) ?_; simp only [Act.put, List.setIfInBounds_toArray, List.set_cons_zero, List.set_cons_succ])
  (refine plan_plain rfl rfl ?_ ?_ ?_; rotate_left; focus (intro w9; go_simp <;> with_reducible rfl)); (simp only [Act.put, List.setIfInBounds_toArray, List.set_cons_zero, List.set_cons_succ])
  (refine plan_plain rfl rfl ?_ ?_ ?_; rotate_left; focus (intro w9; go_simp <;> with_reducible rfl)); (simp only [Act.put, List.setIfInBounds_toArray, List.set_cons_zero, List.set_cons_succ])
  (refine plan_load rfl rfl (⟨ba, oa + k, none⟩) (by kernel_rfl) (.float .f32 x) (load_cell aflt A0) ?_; simp only [Act.put, List.setIfInBounds_toArray, List.set_cons_zero, List.set_cons_succ])
  (refine plan_load rfl rfl (⟨gb, 0, none⟩) (by kernel_rfl) (.slice (some ⟨bb, ob, none⟩) n cb) (load_cell aslc (Bc 0)) ?_; simp only [Act.put, List.setIfInBounds_toArray, List.set_cons_zero, List.set_cons_succ])
  (refine plan_plain rfl rfl ?_ ?_ ?_; rotate_left; focus (intro w9; go_simp <;> with_reducible rfl)); (simp only [Act.put, List.setIfInBounds_toArray, List.set_cons_zero, List.set_cons_succ])
  (refine plan_plain rfl rfl ?_ ?_ ?_; rotate_left; focus (intro w9; go_simp <;> with_reducible rfl)); (simp only [Act.put, List.setIfInBounds_toArray, List.set_cons_zero, List.set_cons_succ])
  (refine plan_load rfl rfl (⟨bb, ob + k, none⟩) (by kernel_rfl) (.float .f32 y) (load_cell aflt B0) ?_; simp only [Act.put, List.setIfInBounds_toArray, List.set_cons_zero, List.set_cons_succ])
  have v0_ := Grows.drew w
  generalize w.drew = v0 at *
  refine plan_call rfl rfl 71 #[] #[] rfl _ Try.func71 (by kernel_rfl) (by kernel_rfl) [.float .f32 x, .float .f32 y] (by kernel_rfl) #[.float .f32 x, .float .f32 y] (by simp) _ (mulN x y v0) ?_
  rintro e v1 ⟨z, nn, rfl, hw, hz, hzl⟩
  refine ⟨_, rfl, v0_.next (by rw [hw]; exact below_drewN (Below.refl _ _) _), ?_⟩
  simp only [Act.put, List.setIfInBounds_toArray, List.set_cons_zero, List.set_cons_succ]
  have v1_ := v0_.next (show Below v0.heap.size v0 v1 by rw [hw]; exact below_drewN (Below.refl _ _) _); have HZ := Lib.hid hz; clear hz hw
  change wpList _ _ _ _ _ _
  simp only [List.drop_succ_cons, List.drop_zero]
  go_wp2_with fail
  refine NoPanic.normal ?_
  go_wp2
  go_ret
  exact ⟨z, rfl, by rw [HR.out]; exact HZ.out, hzl, v1_⟩

set_option maxHeartbeats 4000000 in
set_option maxRecDepth 100000 in
theorem implEachWith (a b : Option Addr) (ca cb : Nat) (xs ys : List Nat) (w : World) (ha : RowV w a (fvals xs)) (hb : RowV w b (fvals ys)) (m0 : xs.length ≤ maxLen) (m1 : ys.length ≤ maxLen) : Calls Try.prog 98 #[.slice a xs.length ca, .slice b ys.length cb, .func (.func 71) #[] #[]] w (GaveT w (timB xs ys) (toldC xs.length (timC xs ys))) := by
  unfold maxLen at m0 m1
  rcases hl : lenB xs.length with _ | _
  · skip
    have HF : Hid (timB xs ys = false) := Lib.hid (by unfold timB; rw [hl]; rfl)
    have HL := Lib.hid hl; clear hl
    have A := Blk.new w #[.slice a xs.length ca] 22
    have B := Blk.new1 w (.cells #[.slice a xs.length ca] 22) #[.slice b ys.length cb] 22
    replace A := A.alloc (.cells #[.slice b ys.length cb] 22)
    have G := Blk.new2 w (.cells #[.slice a xs.length ca] 22) (.cells #[.slice b ys.length cb] 22) #[.func (.func 71) #[] #[]] 97
    replace A := A.alloc (.cells #[.func (.func 71) #[] #[]] 97)
    replace B := B.alloc (.cells #[.func (.func 71) #[] #[]] 97)
    have HB : Hid (Below w.heap.size w (((w.alloc (.cells #[.slice a xs.length ca] 22)).alloc (.cells #[.slice b ys.length cb] 22)).alloc (.cells #[.func (.func 71) #[] #[]] 97))) := Lib.hid ((((Below.refl w.heap.size w).alloc (by simp <;> omega) _).alloc (by simp <;> omega) _).alloc (by simp <;> omega) _)
    go_enter Try.func98, Try.ntmps98
    go_wp2_with fail
    generalize (((w.alloc (.cells #[.slice a xs.length ca] 22)).alloc (.cells #[.slice b ys.length cb] 22)).alloc (.cells #[.func (.func 71) #[] #[]] 97)) = u1 at *
    refine (implRecord _ _ _ _ (by unfold maxLen; omega)).mono ?_
    rintro e w9 ⟨rfl, rfl⟩
    rw [HL.out]
    obtain ⟨Ac, Af⟩ := A.open
    obtain ⟨Bc, Bf⟩ := B.open
    obtain ⟨Gc, Gf⟩ := G.open
    go_wp2
    go_ret2
    exact gave_not HF.out HB.out
  by_cases he : xs.length = ys.length
  rotate_left
  · skip
    have HF : Hid (timB xs ys = false) := Lib.hid (by unfold timB; rw [decide_eq_false he, Bool.and_false])
    have d0 : ((xs.length : Int) == (ys.length : Int)) = false := by simp; omega
    have d1 : ((xs.length : Int) != (ys.length : Int)) = true := by simp; omega
    have HL := Lib.hid hl; clear hl
    have A := Blk.new w #[.slice a xs.length ca] 22
    have B := Blk.new1 w (.cells #[.slice a xs.length ca] 22) #[.slice b ys.length cb] 22
    replace A := A.alloc (.cells #[.slice b ys.length cb] 22)
    have G := Blk.new2 w (.cells #[.slice a xs.length ca] 22) (.cells #[.slice b ys.length cb] 22) #[.func (.func 71) #[] #[]] 97
    replace A := A.alloc (.cells #[.func (.func 71) #[] #[]] 97)
    replace B := B.alloc (.cells #[.func (.func 71) #[] #[]] 97)
    have HB : Hid (Below w.heap.size w (((w.alloc (.cells #[.slice a xs.length ca] 22)).alloc (.cells #[.slice b ys.length cb] 22)).alloc (.cells #[.func (.func 71) #[] #[]] 97))) := Lib.hid ((((Below.refl w.heap.size w).alloc (by simp <;> omega) _).alloc (by simp <;> omega) _).alloc (by simp <;> omega) _)
    go_enter Try.func98, Try.ntmps98
    go_wp2_with fail
    generalize (((w.alloc (.cells #[.slice a xs.length ca] 22)).alloc (.cells #[.slice b ys.length cb] 22)).alloc (.cells #[.func (.func 71) #[] #[]] 97)) = u1 at *
    refine (implRecord _ _ _ _ (by unfold maxLen; omega)).mono ?_
    rintro e w9 ⟨rfl, rfl⟩
    rw [HL.out]
    obtain ⟨Ac, Af⟩ := A.open
    obtain ⟨Bc, Bf⟩ := B.open
    obtain ⟨Gc, Gf⟩ := G.open
    go_wp2
    go_ret2
    exact gave_not HF.out HB.out
  have HF : Hid (timB xs ys = true) := Lib.hid (by unfold timB; rw [hl, decide_eq_true he]; rfl)
  obtain ⟨l1, l2⟩ : 1 ≤ (xs.length : Int) ∧ (xs.length : Int) ≤ 64 := of_decide_eq_true hl
  obtain ⟨ba, oa, rfl, hz0⟩ := ha 0 _ (fvals_get (show 0 < xs.length by omega)); clear hz0
  obtain ⟨bb, ob, rfl, hz1⟩ := hb 0 _ (fvals_get (show 0 < ys.length by omega)); clear hz1
  generalize hn : xs.length = n at *
  have hm := he.symm
  rw [hm]
  have HN := Lib.hid hn; have HM := Lib.hid hm; clear hn hm he
  have HL := Lib.hid hl; clear hl
  have A := Blk.new w #[.slice (some ⟨ba, oa, none⟩) n ca] 22
  have B := Blk.new1 w (.cells #[.slice (some ⟨ba, oa, none⟩) n ca] 22) #[.slice (some ⟨bb, ob, none⟩) n cb] 22
  replace A := A.alloc (.cells #[.slice (some ⟨bb, ob, none⟩) n cb] 22)
  have G := Blk.new2 w (.cells #[.slice (some ⟨ba, oa, none⟩) n ca] 22) (.cells #[.slice (some ⟨bb, ob, none⟩) n cb] 22) #[.func (.func 71) #[] #[]] 97
  replace A := A.alloc (.cells #[.func (.func 71) #[] #[]] 97)
  replace B := B.alloc (.cells #[.func (.func 71) #[] #[]] 97)
  have HB : Hid (Below w.heap.size w (((w.alloc (.cells #[.slice (some ⟨ba, oa, none⟩) n ca] 22)).alloc (.cells #[.slice (some ⟨bb, ob, none⟩) n cb] 22)).alloc (.cells #[.func (.func 71) #[] #[]] 97))) := Lib.hid ((((Below.refl w.heap.size w).alloc (by simp <;> omega) _).alloc (by simp <;> omega) _).alloc (by simp <;> omega) _)
  go_enter Try.func98, Try.ntmps98
  go_wp2_with fail
  generalize (((w.alloc (.cells #[.slice (some ⟨ba, oa, none⟩) n ca] 22)).alloc (.cells #[.slice (some ⟨bb, ob, none⟩) n cb] 22)).alloc (.cells #[.func (.func 71) #[] #[]] 97)) = u1 at *
  refine (implRecord _ _ _ _ (by unfold maxLen; omega)).mono ?_
  rintro e w9 ⟨rfl, rfl⟩
  rw [HL.out]
  obtain ⟨Ac, Af⟩ := A.open
  obtain ⟨Bc, Bf⟩ := B.open
  obtain ⟨Gc, Gf⟩ := G.open
  go_wp2_with fail
  refine (implListBy n 128 #[] #[.pointer (some ⟨w.heap.size + 1 + 1, 0, none⟩), .pointer (some ⟨w.heap.size, 0, none⟩), .pointer (some ⟨w.heap.size + 1, 0, none⟩)] (timC xs ys) _ (by omega) (by exact ⟨_, rfl, by kernel_rfl, by kernel_rfl⟩) (fun i hi w' hw' => implEach1 _ _ _ ba oa ca bb ob cb n i xs ys w' (G.later hw') (A.later hw') (B.later hw') (ha.later (HB.out.trans (hw'.mono HB.out.size))) (hb.later (HB.out.trans (hw'.mono HB.out.size))) HN.out HM.out hi (by omega))).mono ?_
  rintro e w2 ⟨g, L, rfl, own, hl, hi, q⟩
  have HO := Lib.hid own; have HLL := Lib.hid hl; have HI := Lib.hid hi; clear own hl hi
  clear Ac Af
  clear Bc Bf
  clear Gc Gf
  go_wp2
  go_ret2
  exact gave_told HF.out HLL.out HI.out (HO.out.lower HB.out.size) (HB.out.trans (q.mono HB.out.size))

theorem implTimesWindowL (a : Option Addr) (ca : Nat) (xs : List Nat) (b : Option Addr) (cb : Nat) (ys : List Nat) (w : World) (ha : RowV w a (fvals xs)) (qa : ∀ z ∈ xs, z < 2 ^ 32) (m0 : xs.length ≤ maxLen) (hb : RowV w b (fvals ys)) (qb : ∀ z ∈ ys, z < 2 ^ 32) (m1 : ys.length ≤ maxLen) : Calls Try.prog 40 #[.slice a xs.length ca, .slice b ys.length cb] w (GaveT w (timB xs ys) (toldC xs.length (timC xs ys))) := by
  go_enter Try.func40, Try.ntmps40
  go_wp2_with fail
  refine (implEachWith a b ca cb xs ys w ha hb m0 m1).mono ?_
  rintro e w2 ⟨a9, c9, y9, rfl, G9⟩
  go_wp2
  go_ret2
  exact ⟨a9, c9, y9, rfl, G9⟩
end Go.Proofs.Ythihemfegjaenaa

end

section

namespace Go.Proofs.Ythihemfegjaenaa
open Go Go.RowKit
set_option linter.unusedVariables false

section
variable {P : Program} {ops : Array Oper} {Q : Exit → Act → World → Prop} {S : World → Prop}
theorem wp_region_held_tail {id : Nat} {a : Act} {w : World} {l : List Oper} (S : World → Prop) (k n : Nat) (hm : P.follows .mixedOrders = true) (hB : heldTailB .any l.toArray k n = true) (hQ : ∀ c a d v w, Q (.panic c) (Act.put a d v) w → Q (.panic c) a w) (hS : S w.drew)
    (h : takes P l.toArray S (fun a' => heldList P l.toArray S Q (fun a w => wpList P l.toArray Q (l.drop n) a w) ((l.drop k).take (n - k)) a' w.drew) (l.take k) a) : (Code.region id l.toArray true).wp P Q a w :=
  wp_region_any hm (wpAny_held_tail S k n hB hQ hS h)
theorem takes_plain {o : Oper} {a : Act} {rest : List Oper} {K : Act → Prop} {v : Value} (hw : Region.wanted o (yielded ops a.tmps) = true) (hr : ∀ w', S w' → (execOp a.eval o).run P w' = .ok (.value v) w') (h : takes P ops S K rest (a.put o.dst v)) : takes P ops S K (o :: rest) a := ⟨v, .inl ⟨hw, hr⟩, h⟩
end
end Go.Proofs.Ythihemfegjaenaa

end

section

namespace Go.Proofs.Ythihemfegjaenaa
open Go Ieee Go.RowKit
set_option linter.unusedVariables false
set_option linter.unusedSimpArgs false

theorem specRecord (a : Option Addr) (n c : Nat) (w : World) (hn : n ≤ maxLen) : Calls Try.prog 97 #[.slice a n c] w fun e w' => e = .returned (.bool (lenB n)) ∧ w = w' := by
  unfold maxLen at hn
  go_enter Try.func97, Try.ntmps97
  go_wp2_with fail
  refine (specLength _ _).mono ?_
  rintro e w9 ⟨rfl, rfl⟩
  go_wp2
  go_ret
  exact ⟨rfl, rfl⟩

set_option maxHeartbeats 8000000 in
set_option maxRecDepth 100000 in
theorem specTimesWindowL (a : Option Addr) (ca : Nat) (xs : List Nat) (b : Option Addr) (cb : Nat) (ys : List Nat) (w : World) (ha : RowV w a (fvals xs)) (qa : ∀ z ∈ xs, z < 2 ^ 32) (m0 : xs.length ≤ maxLen) (hb : RowV w b (fvals ys)) (qb : ∀ z ∈ ys, z < 2 ^ 32) (m1 : ys.length ≤ maxLen) : Calls Try.prog 38 #[.slice a xs.length ca, .slice b ys.length cb] w (GaveT w (timB xs ys) (toldC xs.length (timC xs ys))) := by
  unfold maxLen at m0 m1
  obtain ⟨ti, hi0, hz0, hz1, hz2⟩ := info_parts Try.infoF32
  have HI := Lib.hid hi0; have HZ0 := Lib.hid hz0; have HZ1 := Lib.hid hz1; have HZ2 := Lib.hid hz2; clear hi0 hz0 hz1 hz2
  rcases hl : lenB xs.length with _ | _
  · skip
    have HF : Hid (timB xs ys = false) := Lib.hid (by unfold timB; rw [hl]; rfl)
    have HL := Lib.hid hl; clear hl
    go_enter Try.func38, Try.ntmps38
    go_wp2_with fail
    refine (specRecord _ _ _ _ (by unfold maxLen; omega)).mono ?_
    rintro e w9 ⟨rfl, rfl⟩
    rw [HL.out]
    go_wp2
    go_ret2
    exact gave_not HF.out (Below.refl _ _)
  by_cases he : xs.length = ys.length
  rotate_left
  · skip
    have HF : Hid (timB xs ys = false) := Lib.hid (by unfold timB; rw [decide_eq_false he, Bool.and_false])
    have d0 : ((ys.length : Int) == (xs.length : Int)) = false := by simp; omega
    have d1 : ((ys.length : Int) != (xs.length : Int)) = true := by simp; omega
    have HL := Lib.hid hl; clear hl
    go_enter Try.func38, Try.ntmps38
    go_wp2_with fail
    refine (specRecord _ _ _ _ (by unfold maxLen; omega)).mono ?_
    rintro e w9 ⟨rfl, rfl⟩
    rw [HL.out]
    go_wp2
    go_ret2
    exact gave_not HF.out (Below.refl _ _)
  have HF : Hid (timB xs ys = true) := Lib.hid (by unfold timB; rw [hl, decide_eq_true he]; rfl)
  obtain ⟨l1, l2⟩ : 1 ≤ (xs.length : Int) ∧ (xs.length : Int) ≤ 64 := of_decide_eq_true hl
  obtain ⟨ba, oa, rfl, hz0⟩ := ha 0 _ (fvals_get (show 0 < xs.length by omega)); clear hz0
  obtain ⟨bb, ob, rfl, hz1⟩ := hb 0 _ (fvals_get (show 0 < ys.length by omega)); clear hz1
  generalize hn : xs.length = n at *
  have hm := he.symm
  rw [hm]
  have HN := Lib.hid hn; have HM := Lib.hid hm; clear hn hm he
  have HL := Lib.hid hl; clear hl
  have OS := Lib.hid (outs_start w)
  go_enter Try.func38, Try.ntmps38
  go_wp2_with fail
  refine (specRecord _ _ _ _ (by unfold maxLen; omega)).mono ?_
  rintro e w9 ⟨rfl, rfl⟩
  rw [HL.out]
  go_wp2
  go_loopw [6, 7] (fun vv iv wr => ∃ (k : Nat) (zs : List Nat), k ≤ n ∧ iv = .int .i64 k ∧ Outs w wr vv k zs ∧ (∀ z ∈ zs, z < 2 ^ 32) ∧ (∀ i, i < k → canon .f32 (zs.getD i 0) = timC xs ys i)) (fun _ iv _ => n - (intOf iv).toNat)
  case atStart => exact ⟨0, [], Nat.zero_le _, rfl, OS.out, by simp, fun i hi => absurd hi (by omega)⟩
  case round =>
    obtain ⟨k, zs, hk, rfl, hout, hz1, hz2⟩ := hrel
    have HO := Lib.hid hout; have HZZ := Lib.hid (And.intro hz1 hz2); clear hout hz1 hz2 OS
    by_cases hlt : k < n
    · skip
      have hki : (k : Int) < (n : Int) := by omega
      have k0 : (0 : Int) ≤ (k : Int) := Int.natCast_nonneg k
      have HX : Hid (∀ z, z < 2 ^ 32 → canon .f32 z = timC xs ys k → (∀ y ∈ zs ++ [z], y < 2 ^ 32) ∧ (∀ i, i < k + 1 → canon .f32 ((zs ++ [z]).getD i 0) = timC xs ys i)) := Lib.hid (fun z hz hc => told_snoc HO.out.1 HZZ.out.1 HZZ.out.2 hz hc)
      obtain ⟨ba', oa', e1, A0⟩ := row_cellN (ha.later HO.out.2.2) (show k < xs.length by rw [HN.out]; exact hlt)
      cases e1
      obtain ⟨bb', ob', e2, B0⟩ := row_cellN (hb.later HO.out.2.2) (show k < ys.length by rw [HM.out]; exact hlt)
      cases e2
      have HR : Hid (timC xs ys k = fop .mul .f32 (canon .f32 (xs.getD k 0)) (canon .f32 (ys.getD k 0))) := Lib.hid rfl
      generalize xs.getD k 0 = x at *
      generalize ys.getD k 0 = y at *
      have aflt : ∀ w, (isAgg 36).run Try.prog w = .ok false w := fun w => by kernel_rfl
      go_upto_region 7 with (fail)
      refine wp_region_noPanic ?_
      refine wp_region_held_tail (Grows wr) 9 11 (by kernel_rfl) (by kernel_rfl) (fun _ _ _ _ _ h => h) (Grows.drew _) ?_
      simp only [List.take_succ_cons, List.take_zero, List.drop_succ_cons, List.drop_zero, Nat.reduceSub]
      (refine takes_plain (v := ?_) rfl ?_ ?_; rotate_left; focus (intro w9 _; go_simp <;> with_reducible rfl)); (simp only [Act.put, List.setIfInBounds_toArray, List.set_cons_zero, List.set_cons_succ])
      (refine takes_plain (v := ?_) rfl ?_ ?_; rotate_left; focus (intro w9 _; go_simp <;> with_reducible rfl)); (simp only [Act.put, List.setIfInBounds_toArray, List.set_cons_zero, List.set_cons_succ])
      (refine takes_plain (v := ?_) rfl ?_ ?_; rotate_left; focus (intro w9 _; go_simp <;> with_reducible rfl)); (simp only [Act.put, List.setIfInBounds_toArray, List.set_cons_zero, List.set_cons_succ])
      (refine takes_plain (v := ?_) rfl ?_ ?_; rotate_left; focus (intro w9 _; go_simp <;> with_reducible rfl)); (simp only [Act.put, List.setIfInBounds_toArray, List.set_cons_zero, List.set_cons_succ])
      (refine takes_load rfl _ rfl (.float .f32 x) (load_cell aflt A0) ?_; simp only [Act.put, List.setIfInBounds_toArray, List.set_cons_zero, List.set_cons_succ])
      (refine takes_plain (v := ?_) rfl ?_ ?_; rotate_left; focus (intro w9 _; go_simp <;> with_reducible rfl)); (simp only [Act.put, List.setIfInBounds_toArray, List.set_cons_zero, List.set_cons_succ])
      (refine takes_plain (v := ?_) rfl ?_ ?_; rotate_left; focus (intro w9 _; go_simp <;> with_reducible rfl)); (simp only [Act.put, List.setIfInBounds_toArray, List.set_cons_zero, List.set_cons_succ])
      (refine takes_plain (v := ?_) rfl ?_ ?_; rotate_left; focus (intro w9 _; go_simp <;> with_reducible rfl)); (simp only [Act.put, List.setIfInBounds_toArray, List.set_cons_zero, List.set_cons_succ])
      (refine takes_load rfl _ rfl (.float .f32 y) (load_cell aflt B0) ?_; simp only [Act.put, List.setIfInBounds_toArray, List.set_cons_zero, List.set_cons_succ])
      replace HO := Lib.hid (outs_laterW HO.out (below_drew wr))
      have w1 := Grows.drew wr
      generalize wr.drew = v3 at *
      change wpList _ _ _ _ _ _
      go_wp2_with (refine wpList_arith rfl _ _ _ _ _ rfl rfl .f32 _ _ rfl rfl ?_; intro z nn hc hb_z; have H_z := Lib.hid hc; clear hc; replace hb_z : z < 2 ^ 32 := hb_z)
      have b4 : Below v3.heap.size v3 (v3.drewN nn) := below_drewN (Below.refl _ _) _
      replace HO := Lib.hid (outs_laterW HO.out b4)
      have w4 := w1.next b4; clear w1 b4
      generalize v3.drewN nn = v4 at *
      refine ⟨w4, ?_⟩
      change wpList _ _ _ _ _ _
      go_wp2_with fail
      have w5 := w4.next (below_new v4 (.cells #[.float .f32 z] 36))
      refine ⟨w5, ?_⟩
      have hown := HO.out.2.1
      change wpList _ _ _ _ _ _
      go_wp2_with (at_builtin; refine wpList_append_own _ rfl _ _ 22 rfl w.heap.size 36 ti (.float .f32 0) 1 4 Try.underlying22 HI.out HZ0.out HZ1.out HZ2.out rfl (by decide) _ _ _ rfl (hown.alloc _) ⟨v4.heap.size, 0, none⟩ 1 1 [.float .f32 z] rfl rfl (one_news _ _) (one_cells _) (by unfold maxLen; omega) (by omega) (by have := HO.out.2.2.size; simp; omega) ?_; intro v' w9 hown' hgrow _)
      have HO2 := Lib.hid (outs_next HO.out hown' hgrow); clear hown hown' hgrow
      have HN2 := Lib.hid (HX.out z hb_z (by rw [HR.out]; exact H_z.out)); clear HX
      (try refine NoPanic.normal ?_)
      go_wp2
      go_roundw
      case rel => exact ⟨k + 1, _, by omega, by go_num, HO2.out, HN2.out.1, HN2.out.2⟩
      case measure => simp [intOf]; omega
    · skip
      obtain rfl : k = n := by omega
      have HIS := Lib.hid (is_told HO.out.1 HZZ.out.1 HZZ.out.2 (by omega))
      have HLN := Lib.hid HO.out.1
      obtain ⟨a9, c9, rfl, hown, hb⟩ := outs_endW HO.out
      have HW := Lib.hid hown; clear hown
      go_wp2
      go_ret2
      exact gave_told HF.out HLN.out HIS.out HW.out hb
end Go.Proofs.Ythihemfegjaenaa

end

section

namespace Go.Proofs.Ythihemfegjaenaa
open Go Ieee Go.RowKit
set_option linter.unusedVariables false
set_option linter.unusedSimpArgs false

structure CopiedF (w w' : World) (xs : List Nat) (g : Nat) : Prop where
  o0 : OwnV w' w.heap.size (some ⟨g, 0, none⟩) (fvals xs)
  below : Below w.heap.size w w'
  lt : w.heap.size < w'.heap.size

structure CopiedI (w w' : World) (xs : List Int) (g : Nat) : Prop where
  o0 : OwnV w' w.heap.size (some ⟨g, 0, none⟩) (ivals xs)
  below : Below w.heap.size w w'
  lt : w.heap.size < w'.heap.size

theorem tof32s_any (a : Option Addr) (cap : Nat) (xs : List Nat) (w : World) (hr : RowV w a (fvals xs)) (hn : xs.length ≤ 1048576) : Calls Try.prog 39 #[.slice a xs.length cap] w fun e w' => ∃ g, e = .returned (.slice (some ⟨g, 0, none⟩) xs.length xs.length) ∧ CopiedF w w' xs g :=
  (copyF a cap xs w hr hn).mono fun e w' ⟨h1, h2, h3, h4⟩ => ⟨_, h1, h2, h3, h4⟩

theorem eqf32s_any (a b : Option Addr) (ca cb : Nat) (xs : List Nat) (w : World) (ha : RowV w a (fvals xs)) (hb : RowV w b (fvals xs)) (hq : ∀ x ∈ xs, x < 2 ^ 32) (hn : xs.length ≤ maxLen) : Calls Try.prog 35 #[.slice a xs.length ca, .slice b xs.length cb] w fun e w' => e = .returned (.bool true) ∧ Below w.heap.size w w' :=
  (eqF32s a b ca cb xs xs w ha hb (SameF.refl hq) hn).mono fun e w' ⟨h1, n, h2⟩ => ⟨h1, by rw [h2]; exact below_drewN (Below.refl _ _) _⟩

set_option maxHeartbeats 1000000 in
theorem toI64s (a : Option Addr) (cap : Nat) (xs : List Int) (w : World) (hr : RowV w a (ivals xs)) (hn : xs.length ≤ 1048576) :
    Calls Try.prog 31 #[.slice a xs.length cap] w fun e w' => e = .returned (.slice (some ⟨w.heap.size, 0, none⟩) xs.length xs.length) ∧
      w'.ownsRow w.heap.size 2 1 (.slice (some ⟨w.heap.size, 0, none⟩) xs.length xs.length) xs.length (ivals xs) ∧ Below w.heap.size w w' := by
  obtain ⟨i0, hi, hz0, hz1, hz2⟩ := info_parts Try.infoI64
  generalize hlen : xs.length = n at *
  have HL := Lib.hid hlen
  clear hlen
  have hn1 : (n : Int) ≤ 1048576 := by omega
  have hbytes : i0.bytes * n ≤ 281474976710656 := by rw [hz2]; omega
  have HI := Lib.hid hi
  have HZ0 := Lib.hid hz0
  have HZ1 := Lib.hid hz1
  clear hi hz0 hz1 hz2
  go_enter Try.func31, Try.ntmps31
  go_wp2_with (at_make; refine wpList_make_full _ rfl _ _ 26 rfl w.heap.size 2 i0 (.int .i64 0) 1 Try.underlying26 HI.out HZ0.out HZ1.out .i64 .i64 _ _ n rfl rfl rfl rfl hbytes (by unfold maxLen; omega) (Nat.le_refl _) ?_; intro w1 hown hgrow)
  have hown' : w1.ownsRow w.heap.size 2 1 (.slice (some ⟨w.heap.size, 0, none⟩) n n) n (part (ivals xs) (.int .i64 0) 0) := by
    rw [part_zero, ivals_length, HL.out]
    have := hown
    rw [show (Value.int IntKind.i64 0).cells = #[.int .i64 0] from rfl, Nat.mul_one, toList_madeCells_one] at this
    exact this
  have hbel : Below w.heap.size w w1 := (Below.refl w.heap.size w).grown hgrow (Nat.le_refl _) (fun k hk => by cases hk)
  clear hown hgrow
  go_wp2
  go_loopw [4] (fun i wr => ∃ k : Nat, k ≤ n ∧ i = .int .i64 k ∧ wr.ownsRow w.heap.size 2 1 (.slice (some ⟨w.heap.size, 0, none⟩) n n) n (part (ivals xs) (.int .i64 0) k) ∧ Below w.heap.size w wr) (fun i _ => n - (intOf i).toNat)
  case atStart => exact ⟨0, Nat.zero_le _, rfl, hown', hbel⟩
  case round =>
    obtain ⟨k, hk, rfl, hown, hb⟩ := hrel
    have HO := Lib.hid hown
    have HW := Lib.hid hb
    clear hown hb hown' hbel
    by_cases hlt : k < n
    · have hx : (ivals xs)[k]? = some (.int .i64 (xs[k]'(by rw [HL.out]; exact hlt))) := ivals_get (by rw [HL.out]; exact hlt)
      obtain ⟨b, off, rfl, hc⟩ := hr k _ hx
      have hc2 : wr.cell? ⟨b, off + k, none⟩ = some (.int .i64 (xs[k]'(by rw [HL.out]; exact hlt))) := by
        rw [Below.cell HW.out (p := ⟨b, off + k, none⟩) (lt_of_cell hc)]; exact hc
      have hold := World.ownsRow.cellAt HO.out k (by omega)
      have hfr := World.ownsRow.frozenAt HO.out k
      have hst := World.ownsRow.stored HO.out k (.int .i64 (xs[k]'(by rw [HL.out]; exact hlt)))
      rw [part_set _ _ k (by rw [ivals_length, HL.out]; exact hlt) _ hx] at hst
      obtain ⟨v0, hv0⟩ : ∃ v, (part (ivals xs) (.int .i64 0) k)[k]? = some v := by
        have : k < (part (ivals xs) (.int .i64 0) k).length := by unfold part; simp [ivals_length, HL.out]; omega
        exact ⟨_, List.getElem?_eq_getElem this⟩
      rw [hv0] at hold
      have HS := Lib.hid hst
      have HX := Lib.hid hx
      clear hst hx hv0 hc
      generalize (xs[k]'(by rw [HL.out]; exact hlt)) = xk at *
      go_wp2
      go_roundw
      case rel => exact ⟨k + 1, by omega, by go_num, HS.out.1, HW.out.grown HS.out.2 HW.out.size (fun j hj => by cases hj; exact Nat.le_refl _)⟩
      case measure => simp [intOf]; omega
    · obtain rfl : k = n := by omega
      go_wp2
      go_ret
      have hp := part_all (ivals xs) (.int .i64 0)
      rw [ivals_length, HL.out] at hp
      have := HO.out
      rw [hp] at this
      exact ⟨rfl, this, HW.out⟩

theorem toi64s_any (a : Option Addr) (cap : Nat) (xs : List Int) (w : World) (hr : RowV w a (ivals xs)) (hn : xs.length ≤ 1048576) : Calls Try.prog 31 #[.slice a xs.length cap] w fun e w' => ∃ g, e = .returned (.slice (some ⟨g, 0, none⟩) xs.length xs.length) ∧ CopiedI w w' xs g :=
  (toI64s a cap xs w hr hn).mono fun e w' ⟨he, ho, hb⟩ => by
    have h : OwnV w' w.heap.size (some ⟨w.heap.size, 0, none⟩) (ivals xs) := .of_owned ho
    refine ⟨_, he, h, hb, ?_⟩
    rcases h with ⟨h, _⟩ | ⟨g, cs, t, h, _, hc, _⟩
    · cases h
    · cases h; exact hc.lt

theorem eqi64s_any (a b : Option Addr) (ca cb : Nat) (xs : List Int) (w : World) (ha : RowV w a (ivals xs)) (hb : RowV w b (ivals xs)) (hn : xs.length ≤ maxLen) : Calls Try.prog 15 #[.slice a xs.length ca, .slice b xs.length cb] w fun e w' => e = .returned (.bool true) ∧ Below w.heap.size w w' :=
  (eqI64s a b ca cb xs xs w ha hb rfl hn).mono fun e w' ⟨h1, n, h2⟩ => ⟨h1, by rw [h2]; exact below_drewN (Below.refl _ _) _⟩

end Go.Proofs.Ythihemfegjaenaa

end
