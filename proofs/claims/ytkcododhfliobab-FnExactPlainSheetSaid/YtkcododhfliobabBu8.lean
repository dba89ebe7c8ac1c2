/- Several texts in one: facts on floats, lists, memory and the functions that the theorems beside this text use. Conditions: none beyond those of each theorem. -/
import Derived.Test.YtkcododhfliobabBu7
import Derived.Test.YtkcododhfliobabBu5
import Derived.Test.YtkcododhfliobabBu1
import Derived.Laws.EntriesVeiled
import Derived.Test.YtkcododhfliobabBu2

set_option linter.unusedVariables false

section

namespace Go.Proofs.Ytkcododhfliobab
open Go Ieee Go.RowKit
set_option linter.unusedVariables false

theorem implAround (n s : Int) (w : World) (h1 : -1000 ≤ n) (h2 : n ≤ 1000) (h3 : 1 ≤ s) (h4 : s ≤ 16) : Calls Try.prog 138 #[.int .i64 n, .int .i64 s] w fun e w' => e = .returned (.int .i64 (n % s)) ∧ w = w' := by
  have hne : (s == 0) = false := by simp; omega
  have t1 : n.tmod s < s := Int.tmod_lt_of_pos _ (by omega)
  have t2 : -s < n.tmod s := Int.lt_tmod_of_pos _ (by omega)
  have t3 : 0 ≤ n.tmod s + s := by omega
  have HR : Hid ((n.tmod s) % s = n % s) := Lib.hid (by rw [Int.tmod_def, Int.sub_mul_emod_self_left])
  go_enter Try.func138, Try.ntmps138
  go_wp2
  go_ret
  exact ⟨by first | (rw [← HR.out]; simp; done) | (rw [← HR.out]; rfl), rfl⟩

theorem implMirCell (wd hi x y : Int) (wb : Bool) (w : World) (h1 : 0 ≤ x) (h2 : x ≤ 16) (h3 : 3 ≤ wd) (h4 : wd ≤ 16) : Calls Try.prog 111 #[.agg #[.int .i64 wd, .int .i64 hi, .bool wb], .agg #[.int .i64 (x), .int .i64 (y)]] w fun e w' => e = .returned (.agg #[.int .i64 (wd - 1 - x), .int .i64 (y)]) ∧ Below w.heap.size w w' := by
  go_enter Try.func111, Try.ntmps111
  go_wp2
  exact bodyPost_ret (v := .agg #[.int .i64 (wd - 1 - x), .int .i64 (y)]) (by simp [results, Try.results111, go_sem]) rfl ⟨rfl, ((((Below.refl _ _).alloc (by simp <;> omega) _).alloc (by simp <;> omega) _).alloc (by simp <;> omega) _)⟩

theorem implAroundB (n s : Int) (w : World) (h1 : -1000 ≤ n) (h2 : n ≤ 1000) (h3 : 1 ≤ s) (h4 : s ≤ 16) : Calls Try.prog 138 #[.int .i64 n, .int .i64 s] w fun e w' => e = .returned (.int .i64 (n % s)) ∧ Below w.heap.size w w' :=
  (implAround n s w h1 h2 h3 h4).mono fun e w' ⟨h, hw⟩ => ⟨h, hw ▸ Below.refl _ _⟩

theorem implMirGap (wd hi x y : Int) (wb : Bool) (w : World) (h1 : 0 ≤ x) (h2 : x ≤ 16) (h3 : 3 ≤ wd) (h4 : wd ≤ 16) : Calls Try.prog 112 #[.agg #[.int .i64 wd, .int .i64 hi, .bool wb], .agg #[.int .i64 (x), .int .i64 (y)]] w fun e w' => e = .returned (.agg #[.int .i64 ((wd - 2 - x) % wd), .int .i64 (y)]) ∧ Below w.heap.size w w' := by
  have X := Blk.new w #[.int .i64 wd, .int .i64 hi, .bool wb] 77
  have C := Blk.new1 w (.cells #[.int .i64 wd, .int .i64 hi, .bool wb] 77) #[.int .i64 (x), .int .i64 (y)] 100
  replace X := X.alloc (.cells #[.int .i64 (x), .int .i64 (y)] 100)
  have R := Blk.new2 w (.cells #[.int .i64 wd, .int .i64 hi, .bool wb] 77) (.cells #[.int .i64 (x), .int .i64 (y)] 100) #[.int .i64 0, .int .i64 0] 100
  replace X := X.alloc (.cells #[.int .i64 0, .int .i64 0] 100)
  replace C := C.alloc (.cells #[.int .i64 0, .int .i64 0] 100)
  have HB : Hid (Below w.heap.size w (((w.alloc (.cells #[.int .i64 wd, .int .i64 hi, .bool wb] 77)).alloc (.cells #[.int .i64 (x), .int .i64 (y)] 100)).alloc (.cells #[.int .i64 0, .int .i64 0] 100))) := Lib.hid ((((Below.refl w.heap.size w).alloc (by simp <;> omega) _).alloc (by simp <;> omega) _).alloc (by simp <;> omega) _)
  go_enter Try.func112, Try.ntmps112
  go_wp2_with fail
  generalize (((w.alloc (.cells #[.int .i64 wd, .int .i64 hi, .bool wb] 77)).alloc (.cells #[.int .i64 (x), .int .i64 (y)] 100)).alloc (.cells #[.int .i64 0, .int .i64 0] 100)) = u1 at *
  have wr0 : IntKind.i64.wrap (wd - 2) = wd - 2 := IntWalk.i64_in _ (by omega)
  have wr1 : IntKind.i64.wrap (wd - 2 - x) = wd - 2 - x := IntWalk.i64_in _ (by omega)
  obtain ⟨Xc, Xf⟩ := X.open
  obtain ⟨Cc, Cf⟩ := C.open
  clear Xc Xf
  clear Cc Cf
  have neX : w.heap.size ≠ w.heap.size + 1 + 1 := by omega
  have neC : w.heap.size + 1 ≠ w.heap.size + 1 + 1 := by omega
  have tk0 : True := trivial
  go_region_held3 (fun w' => (∀ i, w'.cell? ⟨w.heap.size, i, none⟩ = (#[.int .i64 wd, .int .i64 hi, .bool wb] : Array Value)[i]?) ∧ (∀ i, w'.cell? ⟨w.heap.size + 1, i, none⟩ = (#[.int .i64 (x), .int .i64 (y)] : Array Value)[i]?) ∧ u1.grownBy w' (some (w.heap.size + 1 + 1))) (first | exact keepR2_start X C | exact keepR2_later X C neX neC (by assumption) (by assumption) | exact keepR2_set2 X C neX neC (by assumption) _ _)
    (first
      | (go_at_call 138; have _t := tk0; clear _t tk0; (with_reducible refine (implAroundB _ _ _ (by omega) (by omega) (by omega) (by omega)).mono ?_); rintro r u2 ⟨rfl, qa0⟩; obtain ⟨Rc, Rf⟩ := (R.later (below_next (below_drew u1) qa0)).open))
  go_wp2
  refine bodyPost_ret (v := .agg #[.int .i64 ((wd - 2 - x) % wd), .int .i64 (y)]) (by simp [results, Try.results112, go_sem, Rc]) rfl ⟨rfl, (((HB.out.trans ((below_next (below_drew u1) qa0).mono HB.out.size)).setCell (p := ⟨w.heap.size + 1 + 1, 0, none⟩) (by simp <;> omega) _).setCell (p := ⟨w.heap.size + 1 + 1, 1, none⟩) (by simp <;> omega) _)⟩

theorem implWrapped (wd hi x y : Int) (wb : Bool) (w : World) (h1 : -100 ≤ x) (h2 : x ≤ 100) (h1' : -100 ≤ y) (h2' : y ≤ 100) (h3 : 3 ≤ wd) (h4 : wd ≤ 16) (h5 : 3 ≤ hi) (h6 : hi ≤ 16) : Calls Try.prog 142 #[.agg #[.int .i64 wd, .int .i64 hi, .bool wb], .agg #[.int .i64 (x), .int .i64 (y)]] w fun e w' => e = .returned (.agg #[.int .i64 (x % wd), .int .i64 (y % hi)]) ∧ Below w.heap.size w w' := by
  have X := Blk.new w #[.int .i64 wd, .int .i64 hi, .bool wb] 77
  have C := Blk.new1 w (.cells #[.int .i64 wd, .int .i64 hi, .bool wb] 77) #[.int .i64 (x), .int .i64 (y)] 100
  replace X := X.alloc (.cells #[.int .i64 (x), .int .i64 (y)] 100)
  have R := Blk.new2 w (.cells #[.int .i64 wd, .int .i64 hi, .bool wb] 77) (.cells #[.int .i64 (x), .int .i64 (y)] 100) #[.int .i64 0, .int .i64 0] 100
  replace X := X.alloc (.cells #[.int .i64 0, .int .i64 0] 100)
  replace C := C.alloc (.cells #[.int .i64 0, .int .i64 0] 100)
  have HB : Hid (Below w.heap.size w (((w.alloc (.cells #[.int .i64 wd, .int .i64 hi, .bool wb] 77)).alloc (.cells #[.int .i64 (x), .int .i64 (y)] 100)).alloc (.cells #[.int .i64 0, .int .i64 0] 100))) := Lib.hid ((((Below.refl w.heap.size w).alloc (by simp <;> omega) _).alloc (by simp <;> omega) _).alloc (by simp <;> omega) _)
  go_enter Try.func142, Try.ntmps142
  go_wp2_with fail
  generalize (((w.alloc (.cells #[.int .i64 wd, .int .i64 hi, .bool wb] 77)).alloc (.cells #[.int .i64 (x), .int .i64 (y)] 100)).alloc (.cells #[.int .i64 0, .int .i64 0] 100)) = u1 at *
  obtain ⟨Xc, Xf⟩ := X.open
  obtain ⟨Cc, Cf⟩ := C.open
  clear Xc Xf
  clear Cc Cf
  have neX : w.heap.size ≠ w.heap.size + 1 + 1 := by omega
  have neC : w.heap.size + 1 ≠ w.heap.size + 1 + 1 := by omega
  have tk0 : True := trivial
  have tk1 : True := trivial
  go_region_held3 (fun w' => (∀ i, w'.cell? ⟨w.heap.size, i, none⟩ = (#[.int .i64 wd, .int .i64 hi, .bool wb] : Array Value)[i]?) ∧ (∀ i, w'.cell? ⟨w.heap.size + 1, i, none⟩ = (#[.int .i64 (x), .int .i64 (y)] : Array Value)[i]?) ∧ u1.grownBy w' (some (w.heap.size + 1 + 1))) (first | exact keepR2_start X C | exact keepR2_later X C neX neC (by assumption) (by assumption) | exact keepR2_set2 X C neX neC (by assumption) _ _)
    (first
      | (go_at_call 138; have _t := tk0; clear _t tk0; (with_reducible refine (implAroundB _ _ _ (by omega) (by omega) (by omega) (by omega)).mono ?_); rintro r u2 ⟨rfl, qa0⟩)
      | (go_at_call 138; have _t := tk1; clear _t tk1; (with_reducible refine (implAroundB _ _ _ (by omega) (by omega) (by omega) (by omega)).mono ?_); rintro r u3 ⟨rfl, qa1⟩; obtain ⟨Rc, Rf⟩ := (R.later (below_next (below_next (below_drew u1) qa0) qa1)).open))
  go_wp2
  refine bodyPost_ret (v := .agg #[.int .i64 (x % wd), .int .i64 (y % hi)]) (by simp [results, Try.results142, go_sem, Rc]) rfl ⟨rfl, (((HB.out.trans ((below_next (below_next (below_drew u1) qa0) qa1).mono HB.out.size)).setCell (p := ⟨w.heap.size + 1 + 1, 0, none⟩) (by simp <;> omega) _).setCell (p := ⟨w.heap.size + 1 + 1, 1, none⟩) (by simp <;> omega) _)⟩

theorem impl_mirrorCells (wd hi : Int) (wb : Bool) (w : World) : Calls Try.prog 62 #[.agg #[.int .i64 wd, .int .i64 hi, .bool wb]] w fun e w' => e = .returned (.agg #[.int .i64 wd, .int .i64 hi, .bool wb, .int .i64 wd, .int .i64 hi, .bool wb, .func (.func 111) #[.agg #[.int .i64 wd, .int .i64 hi, .bool wb]] #[]]) ∧ Below w.heap.size w w' := by
  go_enter Try.func62, Try.ntmps62
  go_wp2
  exact bodyPost_ret (v := .agg #[.int .i64 wd, .int .i64 hi, .bool wb, .int .i64 wd, .int .i64 hi, .bool wb, .func (.func 111) #[.agg #[.int .i64 wd, .int .i64 hi, .bool wb]] #[]]) (by simp [results, Try.results62, go_sem]) rfl ⟨rfl, (((Below.refl _ _).alloc (by simp <;> omega) _).alloc (by simp <;> omega) _)⟩

theorem impl_mirrorGaps (wd hi : Int) (wb : Bool) (w : World) : Calls Try.prog 64 #[.agg #[.int .i64 wd, .int .i64 hi, .bool wb]] w fun e w' => e = .returned (.agg #[.int .i64 wd, .int .i64 hi, .bool wb, .int .i64 wd, .int .i64 hi, .bool wb, .func (.func 112) #[.agg #[.int .i64 wd, .int .i64 hi, .bool wb]] #[]]) ∧ Below w.heap.size w w' := by
  go_enter Try.func64, Try.ntmps64
  go_wp2
  exact bodyPost_ret (v := .agg #[.int .i64 wd, .int .i64 hi, .bool wb, .int .i64 wd, .int .i64 hi, .bool wb, .func (.func 112) #[.agg #[.int .i64 wd, .int .i64 hi, .bool wb]] #[]]) (by simp [results, Try.results64, go_sem]) rfl ⟨rfl, (((Below.refl _ _).alloc (by simp <;> omega) _).alloc (by simp <;> omega) _)⟩

end Go.Proofs.Ytkcododhfliobab

end

section

namespace Go.Proofs.Ytkcododhfliobab
open Go Ieee Go.RowKit
set_option linter.unusedVariables false

/-- a list that is filled, number by number -/
structure Filling (w wr : World) (gm : Nat) (mv : Array Value) (g : Nat) (zs : List Nat) : Prop where
  box : Blk wr gm mv 80
  own : OwnV wr w.heap.size (some ⟨g, 0, none⟩) (fvals zs)
  ne : gm ≠ g
  lt : w.heap.size ≤ g
  below : Below w.heap.size w wr

theorem Filling.next {w wr u : World} {gm g k z : Nat} {mv : Array Value} {zs : List Nat} (h : Filling w wr gm mv g zs) (b : Below wr.heap.size wr u) (hk : k < zs.length) : Filling w (u.setCell ⟨g, k, none⟩ (.float .f32 z)) gm mv g (zs.set k z) :=
  ⟨(h.box.later b).setOther (by exact h.ne) _, by
    have := own_put (h.own.later b) k (.float .f32 z) (by rw [fvals_length]; exact hk)
    rw [fvals_set] at this; exact this, h.ne, h.lt, (h.below.trans (b.mono h.below.size)).setCell h.lt _⟩

/-- the cell of such a list, and that it is not frozen -/
theorem Filling.cell {w wr u : World} {gm g k : Nat} {mv : Array Value} {zs : List Nat} (h : Filling w wr gm mv g zs) (b : Below wr.heap.size wr u) (hk : k < zs.length) : u.cell? ⟨g, k, none⟩ = some (.float .f32 zs[k]) ∧ u.frozen? ⟨g, k, none⟩ = false := by
  obtain ⟨cs, ct, _, wb0, wv⟩ := own_some (h.own.later b)
  exact ⟨by rw [wb0.open.1 k]; exact wv k _ (fvals_get hk), wb0.open.2 k⟩

theorem implIndexQ (wd hi x y : Int) (wb : Bool) (q : Nat) (w : World) (hq : Hid (x + wd * y = (q : Int))) (k1 : 0 ≤ wd * y) (k2 : wd * y ≤ 256) (k3 : 0 ≤ x) (k4 : x ≤ 256) : Calls Try.prog 87 #[.agg #[.int .i64 wd, .int .i64 hi, .bool wb], .agg #[.int .i64 x, .int .i64 y]] w fun e w' => e = .returned (.int .i64 (q : Int)) ∧ Below w.heap.size w w' :=
  (implIndexOf wd hi x y wb w k1 k2 k3 k4).mono fun e w' ⟨h, b⟩ => ⟨by rw [h, hq.out], b⟩

theorem div_in {wm hm : Int} {n k : Nat} (s1 : 3 ≤ wm) (hn : wm * hm = n) (hk : k < n) : 0 ≤ (k : Int) % wm ∧ (k : Int) % wm < wm ∧ 0 ≤ (k : Int) / wm ∧ (k : Int) / wm < hm :=
  ⟨Int.emod_nonneg _ (by omega), Int.emod_lt_of_pos _ (by omega), Int.ediv_nonneg (by omega) (by omega), Int.ediv_lt_of_lt_mul (by omega) (by rw [Int.mul_comm hm wm, hn]; omega)⟩

theorem mul_in {wd hi y : Int} (s1 : 3 ≤ wd) (h0 : 0 ≤ y) (h1 : y < hi) (h2 : wd * hi ≤ 256) : 0 ≤ wd * y ∧ wd * y ≤ 256 := by
  have a := Int.mul_nonneg (show 0 ≤ wd by omega) h0
  have b := Int.mul_le_mul_of_nonneg_left (show y ≤ hi by omega) (show 0 ≤ wd by omega)
  omega

set_option maxHeartbeats 8000000 in
set_option maxRecDepth 100000 in
theorem implList_mir (wd hi : Int) (wb : Bool) (a : Option Addr) (ca : Nat) (xs : List Nat) (f : Nat → Nat) (n : Nat) (w : World) (ha : RowV w a (fvals xs)) (s1 : 3 ≤ wd) (s2 : wd ≤ 16) (s3 : 3 ≤ hi) (s4 : hi ≤ 16) (hn : wd * hi = n) (hx : xs.length = n) (hf : ∀ k : Nat, k < n → (f k : Int) = wd - 1 - ((k : Int) % wd) + wd * (((k : Int) / wd)) ∧ f k < n) :
    Calls Try.prog 65 #[.agg #[.int .i64 wd, .int .i64 hi, .bool wb, .int .i64 wd, .int .i64 hi, .bool wb, .func (.func 111) #[.agg #[.int .i64 wd, .int .i64 hi, .bool wb]] #[]], .slice a n ca] w (GotL w n (placed f n xs)) := by
  have hm2 : wd * hi ≤ 256 := by
    have := Int.mul_le_mul s2 s4 (by omega) (by omega); omega
  have n256 : n ≤ 256 := by omega
  have n0 : 0 < n := by
    have := Int.mul_le_mul s1 s3 (by omega) (by omega); omega
  have HN := Lib.hid hn; have HX := Lib.hid hx; have HF := Lib.hid hf; have HM2 := Lib.hid hm2; clear hf hn hx hm2
  have hmk := make_f32s n (by omega)
  have M := Blk.new w #[.int .i64 wd, .int .i64 hi, .bool wb, .int .i64 wd, .int .i64 hi, .bool wb, .func (.func 111) #[.agg #[.int .i64 wd, .int .i64 hi, .bool wb]] #[]] 80
  have HB : Hid (Below w.heap.size w (w.alloc (.cells #[.int .i64 wd, .int .i64 hi, .bool wb, .int .i64 wd, .int .i64 hi, .bool wb, .func (.func 111) #[.agg #[.int .i64 wd, .int .i64 hi, .bool wb]] #[]] 80))) := Lib.hid (below_new _ _)
  go_enter Try.func65, Try.ntmps65
  go_upto_region 1 with (fail)
  generalize w.alloc (.cells #[.int .i64 wd, .int .i64 hi, .bool wb, .int .i64 wd, .int .i64 hi, .bool wb, .func (.func 111) #[.agg #[.int .i64 wd, .int .i64 hi, .bool wb]] #[]] 80) = u1 at *
  have mlt := M.lt
  have HS : Hid (Filling w (u1.alloc (.cells (List.replicate n (Value.float .f32 0)).toArray 40)) w.heap.size #[.int .i64 wd, .int .i64 hi, .bool wb, .int .i64 wd, .int .i64 hi, .bool wb, .func (.func 111) #[.agg #[.int .i64 wd, .int .i64 hi, .bool wb]] #[]] u1.heap.size (mixed (fun i => xs.getD (f i) 0) (List.replicate n 0) 0)) := Lib.hid ⟨M.alloc _, by rw [mixed_zero]; exact (own_zeros u1 n _).lower (Nat.le_of_lt mlt), by omega, by omega, HB.out.alloc HB.out.size _⟩
  have zl : (List.replicate n 0).length = n := List.length_replicate
  have HZ := Lib.hid zl; clear zl M HB
  go_wp2
  go_loopw [12] (fun iv wr => ∃ k : Nat, k ≤ n ∧ iv = .int .i64 k ∧ Filling w wr w.heap.size #[.int .i64 wd, .int .i64 hi, .bool wb, .int .i64 wd, .int .i64 hi, .bool wb, .func (.func 111) #[.agg #[.int .i64 wd, .int .i64 hi, .bool wb]] #[]] u1.heap.size (mixed (fun i => xs.getD (f i) 0) (List.replicate n 0) k)) (fun iv _ => n - (intOf iv).toNat)
  case atStart => first | exact ⟨0, by omega, rfl, HS.out⟩ | exact ⟨0, by omega, rfl, by simpa using HS.out⟩
  case round =>
    obtain ⟨k, hk, rfl, hfill⟩ := hrel
    have HL := Lib.hid hfill; clear hfill HS hmk
    by_cases hlt : k < n
    · skip
      obtain ⟨hq, hqn⟩ := HF.out k hlt
      have HNX : Hid ((mixed (fun i => xs.getD (f i) 0) (List.replicate n 0) k).set k (xs.getD (f k) 0) = mixed (fun i => xs.getD (f i) 0) (List.replicate n 0) (k + 1)) := Lib.hid (mixed_next (fun i => xs.getD (f i) 0) (List.replicate n 0) (by rw [HZ.out]; exact hlt))
      have hml : (mixed (fun i => xs.getD (f i) 0) (List.replicate n 0) k).length = n := by rw [mixed_length _ _ (by rw [HZ.out]; exact hk)]; exact HZ.out
      have hkl : k < (mixed (fun i => xs.getD (f i) 0) (List.replicate n 0) k).length := by omega
      have HML := Lib.hid hml; clear hml
      generalize hfk : f k = q at *
      clear hfk
      have hql : q < xs.length := by rw [HX.out]; exact hqn
      have HUP := HL.out.below
      obtain ⟨b, off, rfl, hc⟩ := (ha.later HUP) q _ (fvals_get hql)
      have hG := getD_get hql
      have HG := Lib.hid hG; clear hG
      generalize xs[q] = x at *
      have HQ : Hid (wd - 1 - ((k : Int) % wd) + wd * (((k : Int) / wd)) = (q : Int)) := Lib.hid (by first | exact hq.symm | simpa using hq.symm); clear hq
      obtain ⟨c0, c1, c2, c3⟩ := div_in (wm := wd) (hm := hi) (k := k) (by omega) HN.out hlt
      obtain ⟨m0, m1⟩ := mul_in (wd := wd) (hi := hi) (y := ((k : Int) / wd)) s1 (by omega) (by omega) HM2.out
      have M := HL.out.box
      have mne := HL.out.ne
      have hbl : b ≠ u1.heap.size := by
        have h1 := lt_of_cell' hc
        obtain ⟨b2, o2, e2, hc2⟩ := ha q _ (by rw [fvals_get hql])
        have h2 := lt_of_cell' hc2
        cases e2
        have h3 := HL.out.lt
        have h4 := mlt
        dsimp only at h2
        omega
      have kn : (k : Int) < (n : Int) := by omega
      have qn : (q : Int) < (n : Int) := by omega
      go_upto_region 5 with (fail)
      go_region_held3 (fun w' => (∀ i, w'.cell? ⟨w.heap.size, i, none⟩ = (#[.int .i64 wd, .int .i64 hi, .bool wb, .int .i64 wd, .int .i64 hi, .bool wb, .func (.func 111) #[.agg #[.int .i64 wd, .int .i64 hi, .bool wb]] #[]] : Array Value)[i]?) ∧ w'.cell? ⟨b, off + q, none⟩ = some (.float .f32 x) ∧ wr.grownBy w' (some u1.heap.size)) (first | with_reducible exact keepP1c1_start M hc | with_reducible exact keepP1c1_later M hc mne hbl (by assumption) (by assumption) | exact keepP1c1_set M hc mne hbl (by assumption) _ _)
        (first
          | (go_at_call 113; (with_reducible refine (implCellAt _ _ _ _ _ (by omega) (by omega) (by omega) (by omega)).mono ?_); rintro r v0 ⟨rfl, qa0⟩)
          | (go_at_call 111; (with_reducible refine (implMirCell _ _ _ _ _ _ (by omega) (by omega) s1 s2).mono ?_); rintro r v1 ⟨rfl, qa1⟩)
          | (go_at_call 87; (with_reducible refine (implIndexQ _ _ _ _ _ q _ HQ m0 m1 (by omega) (by omega)).mono ?_); rintro r v2 ⟨rfl, qa2⟩; obtain ⟨ec, ef⟩ := HL.out.cell (below_next (below_next (below_next (below_drew _) qa0) qa1) qa2) hkl))
      have HL2 := Lib.hid (HL.out.next (z := x) (below_next (below_next (below_next (below_drew _) qa0) qa1) qa2) hkl)
      clear ec ef qa0 qa1 qa2 M hc HUP m0 m1
      go_wp2
      go_roundw
      case rel => exact ⟨k + 1, by omega, by go_num, by rw [← HNX.out, HG.out]; exact HL2.out⟩
      case measure => simp [intOf]; omega
    · skip
      obtain rfl : k = n := by omega
      have HE : Hid (mixed (fun i => xs.getD (f i) 0) (List.replicate k 0) k = placed f k xs) := Lib.hid (by
        have := mixed_all (fun i => xs.getD (f i) 0) (List.replicate k 0)
        rw [HZ.out] at this; exact this)
      go_wp2
      go_ret
      exact ⟨_, _, rfl, by rw [← HE.out]; exact HL.out.own, HL.out.below⟩

set_option maxHeartbeats 8000000 in
set_option maxRecDepth 100000 in
theorem implList_gap (wd hi : Int) (wb : Bool) (a : Option Addr) (ca : Nat) (xs : List Nat) (f : Nat → Nat) (n : Nat) (w : World) (ha : RowV w a (fvals xs)) (s1 : 3 ≤ wd) (s2 : wd ≤ 16) (s3 : 3 ≤ hi) (s4 : hi ≤ 16) (hn : wd * hi = n) (hx : xs.length = n) (hf : ∀ k : Nat, k < n → (f k : Int) = (wd - 2 - ((k : Int) % wd)) % wd + wd * (((k : Int) / wd)) ∧ f k < n) :
    Calls Try.prog 65 #[.agg #[.int .i64 wd, .int .i64 hi, .bool wb, .int .i64 wd, .int .i64 hi, .bool wb, .func (.func 112) #[.agg #[.int .i64 wd, .int .i64 hi, .bool wb]] #[]], .slice a n ca] w (GotL w n (placed f n xs)) := by
  have hm2 : wd * hi ≤ 256 := by
    have := Int.mul_le_mul s2 s4 (by omega) (by omega); omega
  have n256 : n ≤ 256 := by omega
  have n0 : 0 < n := by
    have := Int.mul_le_mul s1 s3 (by omega) (by omega); omega
  have HN := Lib.hid hn; have HX := Lib.hid hx; have HF := Lib.hid hf; have HM2 := Lib.hid hm2; clear hf hn hx hm2
  have hmk := make_f32s n (by omega)
  have M := Blk.new w #[.int .i64 wd, .int .i64 hi, .bool wb, .int .i64 wd, .int .i64 hi, .bool wb, .func (.func 112) #[.agg #[.int .i64 wd, .int .i64 hi, .bool wb]] #[]] 80
  have HB : Hid (Below w.heap.size w (w.alloc (.cells #[.int .i64 wd, .int .i64 hi, .bool wb, .int .i64 wd, .int .i64 hi, .bool wb, .func (.func 112) #[.agg #[.int .i64 wd, .int .i64 hi, .bool wb]] #[]] 80))) := Lib.hid (below_new _ _)
  go_enter Try.func65, Try.ntmps65
  go_upto_region 1 with (fail)
  generalize w.alloc (.cells #[.int .i64 wd, .int .i64 hi, .bool wb, .int .i64 wd, .int .i64 hi, .bool wb, .func (.func 112) #[.agg #[.int .i64 wd, .int .i64 hi, .bool wb]] #[]] 80) = u1 at *
  have mlt := M.lt
  have HS : Hid (Filling w (u1.alloc (.cells (List.replicate n (Value.float .f32 0)).toArray 40)) w.heap.size #[.int .i64 wd, .int .i64 hi, .bool wb, .int .i64 wd, .int .i64 hi, .bool wb, .func (.func 112) #[.agg #[.int .i64 wd, .int .i64 hi, .bool wb]] #[]] u1.heap.size (mixed (fun i => xs.getD (f i) 0) (List.replicate n 0) 0)) := Lib.hid ⟨M.alloc _, by rw [mixed_zero]; exact (own_zeros u1 n _).lower (Nat.le_of_lt mlt), by omega, by omega, HB.out.alloc HB.out.size _⟩
  have zl : (List.replicate n 0).length = n := List.length_replicate
  have HZ := Lib.hid zl; clear zl M HB
  go_wp2
  go_loopw [12] (fun iv wr => ∃ k : Nat, k ≤ n ∧ iv = .int .i64 k ∧ Filling w wr w.heap.size #[.int .i64 wd, .int .i64 hi, .bool wb, .int .i64 wd, .int .i64 hi, .bool wb, .func (.func 112) #[.agg #[.int .i64 wd, .int .i64 hi, .bool wb]] #[]] u1.heap.size (mixed (fun i => xs.getD (f i) 0) (List.replicate n 0) k)) (fun iv _ => n - (intOf iv).toNat)
  case atStart => first | exact ⟨0, by omega, rfl, HS.out⟩ | exact ⟨0, by omega, rfl, by simpa using HS.out⟩
  case round =>
    obtain ⟨k, hk, rfl, hfill⟩ := hrel
    have HL := Lib.hid hfill; clear hfill HS hmk
    by_cases hlt : k < n
    · skip
      obtain ⟨hq, hqn⟩ := HF.out k hlt
      have HNX : Hid ((mixed (fun i => xs.getD (f i) 0) (List.replicate n 0) k).set k (xs.getD (f k) 0) = mixed (fun i => xs.getD (f i) 0) (List.replicate n 0) (k + 1)) := Lib.hid (mixed_next (fun i => xs.getD (f i) 0) (List.replicate n 0) (by rw [HZ.out]; exact hlt))
      have hml : (mixed (fun i => xs.getD (f i) 0) (List.replicate n 0) k).length = n := by rw [mixed_length _ _ (by rw [HZ.out]; exact hk)]; exact HZ.out
      have hkl : k < (mixed (fun i => xs.getD (f i) 0) (List.replicate n 0) k).length := by omega
      have HML := Lib.hid hml; clear hml
      generalize hfk : f k = q at *
      clear hfk
      have hql : q < xs.length := by rw [HX.out]; exact hqn
      have HUP := HL.out.below
      obtain ⟨b, off, rfl, hc⟩ := (ha.later HUP) q _ (fvals_get hql)
      have hG := getD_get hql
      have HG := Lib.hid hG; clear hG
      generalize xs[q] = x at *
      have HQ : Hid ((wd - 2 - (k : Int)) % wd + wd * ((k : Int) / wd) = (q : Int)) := Lib.hid (by first | exact hq.symm | simpa using hq.symm); clear hq
      obtain ⟨c0, c1, c2, c3⟩ := div_in (wm := wd) (hm := hi) (k := k) (by omega) HN.out hlt
      have f0 : 0 ≤ (wd - 2 - (k : Int)) % wd := Int.emod_nonneg _ (by omega)
      have f1 : (wd - 2 - (k : Int)) % wd < wd := Int.emod_lt_of_pos _ (by omega)
      obtain ⟨m0, m1⟩ := mul_in (wd := wd) (hi := hi) (y := ((k : Int) / wd)) s1 (by omega) (by omega) HM2.out
      have M := HL.out.box
      have mne := HL.out.ne
      have hbl : b ≠ u1.heap.size := by
        have h1 := lt_of_cell' hc
        obtain ⟨b2, o2, e2, hc2⟩ := ha q _ (by rw [fvals_get hql])
        have h2 := lt_of_cell' hc2
        cases e2
        have h3 := HL.out.lt
        have h4 := mlt
        dsimp only at h2
        omega
      have kn : (k : Int) < (n : Int) := by omega
      have qn : (q : Int) < (n : Int) := by omega
      go_upto_region 5 with (fail)
      go_region_held3 (fun w' => (∀ i, w'.cell? ⟨w.heap.size, i, none⟩ = (#[.int .i64 wd, .int .i64 hi, .bool wb, .int .i64 wd, .int .i64 hi, .bool wb, .func (.func 112) #[.agg #[.int .i64 wd, .int .i64 hi, .bool wb]] #[]] : Array Value)[i]?) ∧ w'.cell? ⟨b, off + q, none⟩ = some (.float .f32 x) ∧ wr.grownBy w' (some u1.heap.size)) (first | with_reducible exact keepP1c1_start M hc | with_reducible exact keepP1c1_later M hc mne hbl (by assumption) (by assumption) | exact keepP1c1_set M hc mne hbl (by assumption) _ _)
        (first
          | (go_at_call 113; (with_reducible refine (implCellAt _ _ _ _ _ (by omega) (by omega) (by omega) (by omega)).mono ?_); rintro r v0 ⟨rfl, qa0⟩)
          | (go_at_call 112; (with_reducible refine (implMirGap _ _ _ _ _ _ (by omega) (by omega) s1 s2).mono ?_); rintro r v1 ⟨rfl, qa1⟩)
          | (go_at_call 87; (with_reducible refine (implIndexQ _ _ _ _ _ q _ HQ m0 m1 (by omega) (by omega)).mono ?_); rintro r v2 ⟨rfl, qa2⟩; obtain ⟨ec, ef⟩ := HL.out.cell (below_next (below_next (below_next (below_drew _) qa0) qa1) qa2) hkl))
      have HL2 := Lib.hid (HL.out.next (z := x) (below_next (below_next (below_next (below_drew _) qa0) qa1) qa2) hkl)
      clear ec ef qa0 qa1 qa2 M hc HUP m0 m1
      go_wp2
      go_roundw
      case rel => exact ⟨k + 1, by omega, by go_num, by rw [← HNX.out, HG.out]; exact HL2.out⟩
      case measure => simp [intOf]; omega
    · skip
      obtain rfl : k = n := by omega
      have HE : Hid (mixed (fun i => xs.getD (f i) 0) (List.replicate k 0) k = placed f k xs) := Lib.hid (by
        have := mixed_all (fun i => xs.getD (f i) 0) (List.replicate k 0)
        rw [HZ.out] at this; exact this)
      go_wp2
      go_ret
      exact ⟨_, _, rfl, by rw [← HE.out]; exact HL.out.own, HL.out.below⟩

end Go.Proofs.Ytkcododhfliobab

end

section

namespace Go.Proofs.Ytkcododhfliobab
open Go Ieee Go.RowKit
set_option linter.unusedVariables false

theorem gotL_some {w w' : World} {n : Nat} {zs : List Nat} {r : Ending} (h : GotL w n zs r w') (hz : 0 < zs.length) : ∃ g c, r = .returned (.slice (some ⟨g, 0, none⟩) n c) ∧ OwnV w' w.heap.size (some ⟨g, 0, none⟩) (fvals zs) ∧ w.heap.size ≤ g ∧ g < w'.heap.size ∧ Below w.heap.size w w' := by
  obtain ⟨a, c, hr, ho, hb⟩ := h
  rcases ho with ⟨_, h⟩ | ⟨g, cs, e, ha, hg, hbk, hv⟩
  · have := congrArg List.length h
    rw [fvals_length, List.length_nil] at this
    omega
  · subst ha
    exact ⟨g, c, hr, .inr ⟨g, cs, e, rfl, hg, hbk, hv⟩, hg, hbk.lt, hb⟩

theorem blk_heldR2 {u w' : World} {R g : Nat} {cs : Array Value} {t : TypeId} {A B : Prop} (h : Blk u g cs t) (e : g ≠ R) (k : A ∧ B ∧ u.grownBy w' (some R)) : Blk w' g cs t := h.grown k.2.2 (fun h => e (Option.some.inj h))

/-- a sheet of the call's own that is handed back -/
def GotS (w : World) (wm hm : Int) (wb : Bool) (n : Nat) (z0 z1 : List Nat) (r : Ending) (w' : World) : Prop :=
  ∃ g0 g1 c0 c1, r = .returned (.agg #[.int .i64 wm, .int .i64 hm, .bool wb, .slice (some ⟨g0, 0, none⟩) n c0, .slice (some ⟨g1, 0, none⟩) n c1]) ∧ OwnV w' w.heap.size (some ⟨g0, 0, none⟩) (fvals z0) ∧ OwnV w' w.heap.size (some ⟨g1, 0, none⟩) (fvals z1) ∧ g0 ≠ g1 ∧ Below w.heap.size w w'

set_option maxHeartbeats 8000000 in
set_option maxRecDepth 100000 in
theorem implOpp_gap (wd hi : Int) (wb : Bool) (a : Option Addr) (ca : Nat) (xs : List Nat) (f : Nat → Nat) (n : Nat) (w : World) (ha : RowV w a (fvals xs)) (s1 : 3 ≤ wd) (s2 : wd ≤ 16) (s3 : 3 ≤ hi) (s4 : hi ≤ 16) (hn : wd * hi = n) (hx : xs.length = n) (hf : ∀ k : Nat, k < n → (f k : Int) = (wd - 2 - ((k : Int) % wd)) % wd + wd * (((k : Int) / wd)) ∧ f k < n) :
    Calls Try.prog 66 #[.agg #[.int .i64 wd, .int .i64 hi, .bool wb, .int .i64 wd, .int .i64 hi, .bool wb, .func (.func 112) #[.agg #[.int .i64 wd, .int .i64 hi, .bool wb]] #[]], .slice a n ca] w (GotL w n (turned (placed f n xs))) := by
  have n256 : n ≤ 256 := by
    have := Int.mul_le_mul s2 s4 (by omega) (by omega); omega
  have n0 : 0 < n := by
    have := Int.mul_le_mul s1 s3 (by omega) (by omega); omega
  have HN := Lib.hid hn; have HX := Lib.hid hx; have HF := Lib.hid hf; clear hf hn hx
  have M := Blk.new w #[.int .i64 wd, .int .i64 hi, .bool wb, .int .i64 wd, .int .i64 hi, .bool wb, .func (.func 112) #[.agg #[.int .i64 wd, .int .i64 hi, .bool wb]] #[]] 80
  have HB : Hid (Below w.heap.size w (w.alloc (.cells #[.int .i64 wd, .int .i64 hi, .bool wb, .int .i64 wd, .int .i64 hi, .bool wb, .func (.func 112) #[.agg #[.int .i64 wd, .int .i64 hi, .bool wb]] #[]] 80))) := Lib.hid ((Below.refl w.heap.size w).alloc (by simp <;> omega) _)
  go_enter Try.func66, Try.ntmps66
  go_wp2_with fail
  generalize (w.alloc (.cells #[.int .i64 wd, .int .i64 hi, .bool wb, .int .i64 wd, .int .i64 hi, .bool wb, .func (.func 112) #[.agg #[.int .i64 wd, .int .i64 hi, .bool wb]] #[]] 80)) = u1 at *
  refine (implList_gap _ _ _ _ _ _ f n _ (ha.later HB.out) s1 s2 s3 s4 HN.out HX.out HF.out).mono ?_
  intro r u2 hgot
  obtain ⟨g, c, rfl, own, gle, glt, q⟩ := gotL_some hgot (by rw [placed_length]; exact n0)
  clear hgot
  have mlt := M.lt
  replace M := M.later q
  replace HB := Lib.hid (HB.out.trans (q.mono HB.out.size))
  clear q
  have zl : (placed f n xs).length = n := placed_length _ _ _
  have HZ := Lib.hid zl; clear zl
  generalize placed f n xs = L at *
  have HE : Hid (mixed (fun i => Op.negFloat .f32 (L.getD i 0)) L n = turned L) := Lib.hid (by rw [turned_eq]; have := mixed_all (fun i => Op.negFloat .f32 (L.getD i 0)) L; rw [HZ.out] at this; rw [this, HZ.out])
  have HS : Hid (Filling w u2 w.heap.size #[.int .i64 wd, .int .i64 hi, .bool wb, .int .i64 wd, .int .i64 hi, .bool wb, .func (.func 112) #[.agg #[.int .i64 wd, .int .i64 hi, .bool wb]] #[]] g (mixed (fun i => Op.negFloat .f32 (L.getD i 0)) L 0)) := Lib.hid ⟨M, by rw [mixed_zero]; exact own.lower (Nat.le_of_lt mlt), by omega, by omega, HB.out⟩
  clear own M HB
  go_wp2
  go_loopw [13] (fun iv wr => ∃ k : Nat, k ≤ n ∧ iv = .int .i64 k ∧ Filling w wr w.heap.size #[.int .i64 wd, .int .i64 hi, .bool wb, .int .i64 wd, .int .i64 hi, .bool wb, .func (.func 112) #[.agg #[.int .i64 wd, .int .i64 hi, .bool wb]] #[]] g (mixed (fun i => Op.negFloat .f32 (L.getD i 0)) L k)) (fun iv _ => n - (intOf iv).toNat)
  case atStart => exact ⟨0, by omega, rfl, HS.out⟩
  case round =>
    obtain ⟨k, hk, rfl, hfill⟩ := hrel
    have HL := Lib.hid hfill; clear hfill HS
    by_cases hlt : k < n
    · skip
      have hll : k < L.length := by rw [HZ.out]; exact hlt
      have HNX : Hid ((mixed (fun i => Op.negFloat .f32 (L.getD i 0)) L k).set k (Op.negFloat .f32 (L.getD k 0)) = mixed (fun i => Op.negFloat .f32 (L.getD i 0)) L (k + 1)) := Lib.hid (mixed_next (fun i => Op.negFloat .f32 (L.getD i 0)) L hll)
      have hkl : k < (mixed (fun i => Op.negFloat .f32 (L.getD i 0)) L k).length := by rw [mixed_length _ _ (by omega)]; exact hll
      obtain ⟨ec, ef⟩ := HL.out.cell (Below.refl _ _) hkl
      have ev : (mixed (fun i => Op.negFloat .f32 (L.getD i 0)) L k)[k] = L.getD k 0 := by rw [← getD_get hkl]; exact mixed_old _ _ (Nat.le_refl k) hll
      rw [ev] at ec
      have HL2 := Lib.hid (HL.out.next (z := Op.negFloat .f32 (L.getD k 0)) (Below.refl _ _) hkl)
      clear ev
      have kn : (k : Int) < (n : Int) := by omega
      generalize L.getD k 0 = x at *
      go_wp2
      go_roundw
      case rel => exact ⟨k + 1, by omega, by go_num, by rw [← HNX.out]; exact HL2.out⟩
      case measure => simp [intOf]; omega
    · skip
      obtain rfl : k = n := by omega
      go_wp2
      go_ret
      exact ⟨_, _, rfl, by rw [← HE.out]; exact HL.out.own, HL.out.below⟩

end Go.Proofs.Ytkcododhfliobab

end
