/- Several texts in one: facts on floats, lists, memory and the functions that the theorems beside this text use. Conditions: none beyond those of each theorem. -/
import Derived.Test.YtagjlfnlbfgfaaaBu5
import Derived.Test.YtagjlfnlbfgfaaaBu7
import Derived.Test.YtagjlfnlbfgfaaaBu14
import Derived.Maps.AppendAt

set_option linter.unusedVariables false

section

namespace Go.Proofs.Ytagjlfnlbfgfaaa
open Go Ieee Go.RowKit
set_option linter.unusedVariables false
set_option linter.unusedSimpArgs false

def bvals (zs : List Int) : List Value := zs.map (Value.int .u8)
theorem bvals_length (zs : List Int) : (bvals zs).length = zs.length := List.length_map ..
theorem bvals_get {zs : List Int} {i : Nat} (h : i < zs.length) : (bvals zs)[i]? = some (.int .u8 zs[i]) := by
  unfold bvals; rw [List.getElem?_map, List.getElem?_eq_getElem h]; rfl
theorem row_byte {w : World} {a : Option Addr} {zs : List Int} {k : Nat} (h : RowV w a (bvals zs)) (hk : k < zs.length) : ∃ b o, a = some ⟨b, o, none⟩ ∧ w.cell? ⟨b, o + k, none⟩ = some (.int .u8 zs[k]) := h k _ (bvals_get hk)

theorem grown_drawn {w w' : World} {r : Option Nat} (h : w.grownBy w' r) (n : Nat) : w.grownBy (w'.drewN n) r := ⟨h.os, h.tape, h.output, by simpa using h.size, fun k hk hr => by simpa using h.block k hk hr⟩
theorem and255 (x : Int) : 0 ≤ bits .and .u64 x 255 ∧ bits .and .u64 x 255 ≤ 255 := by
  have h : (BitVec.ofInt 64 x &&& BitVec.ofInt 64 255).toNat ≤ 255 := by rw [BitVec.toNat_and]; exact Nat.le_trans Nat.and_le_right (by decide)
  show 0 ≤ IntKind.u64.wrap ((BitVec.ofInt 64 x &&& BitVec.ofInt 64 255).toNat : Int) ∧ IntKind.u64.wrap ((BitVec.ofInt 64 x &&& BitVec.ofInt 64 255).toNat : Int) ≤ 255
  rw [IntKind.wrap_u64]; omega
theorem and255w (x : Int) : 0 ≤ wrap64 (bits .and .u64 x 255) ∧ wrap64 (bits .and .u64 x 255) ≤ 255 := by
  have := and255 x; unfold wrap64; omega
theorem wrap_u64 (z : Int) : 0 ≤ IntKind.u64.wrap z ∧ IntKind.u64.wrap z < 18446744073709551616 := by
  simp [IntKind.wrap, IntKind.signed, IntKind.bits]
  omega

/-- a source of choices: its bytes, how many of them are read, and what comes behind them -/
def SrcAt (w : World) (g : Nat) (a : Option Addr) (n c t : Nat) : Prop := ∃ sd : Int, Blk w g #[.slice a n c, .int .i64 (t : Int), .int .u64 sd] 55 ∧ 0 ≤ sd ∧ sd < 18446744073709551616

set_option maxHeartbeats 4000000 in
set_option maxRecDepth 100000 in
theorem specNextD (g : Nat) (a : Option Addr) (n c t : Nat) (bs : List Int) (w : World) (X : SrcAt w g a n c t) (hb : RowV w a (bvals bs)) (hq : ∀ z ∈ bs, 0 ≤ z ∧ z < 256) (hn : bs.length = n) (n48 : n ≤ 48) (ht : t ≤ 100000) : Calls Try.prog 25 #[.pointer (some ⟨g, 0, none⟩)] w fun e w' => ∃ r : Int, e = .returned (.int .i64 r) ∧ 0 ≤ r ∧ r ≤ 255 ∧ SrcAt w' g a n c (t + 1) ∧ w.grownBy w' (some g) := by
  obtain ⟨sd, X, s0, s1⟩ := X
  have hn48 : (n : Int) ≤ 48 := by omega
  have ht2 : (t : Int) ≤ 100000 := by omega
  have ht0 : (0 : Int) ≤ (t : Int) := Int.natCast_nonneg t
  have hn0 : (0 : Int) ≤ (n : Int) := Int.natCast_nonneg n
  obtain ⟨Xc, Xf⟩ := X.open
  have X0 := X; clear X
  by_cases htn : t < n
  · skip
    obtain ⟨b0, o0, rfl, c0⟩ := row_byte hb (show t < bs.length by omega)
    have hz := hq bs[t] (List.getElem_mem _)
    generalize bs[t] = z at *
    obtain ⟨z0, z1⟩ := hz
    have hti : (t : Int) < (n : Int) := by omega
    have htl : (t : Int) + 1 ≤ (n : Int) := by omega
    go_enter Try.func25, Try.ntmps25
    go_wp2
    go_quiet (fail)
    go_wp2
    go_quiet (fail)
    go_wp2
    go_quiet (fail)
    go_wp2
    go_ret
    refine ⟨_, rfl, ?_, ?_, ⟨_, (((X0.drewN _).set 1 _).set 2 _).drewN _, (wrap_u64 _).1, (wrap_u64 _).2⟩, grown_drawn (grown_set (grown_set (grown_drawn (grown_refl _ _) _) _ _) _ _) _⟩
    · exact z0
    · omega
  · skip
    have hti : ¬ (t : Int) < (n : Int) := by omega
    have htl : ¬ (t : Int) + 1 ≤ (n : Int) := by omega
    go_enter Try.func25, Try.ntmps25
    go_wp2
    go_quiet (fail)
    go_wp2
    go_quiet (fail)
    go_wp2
    go_ret
    refine ⟨_, rfl, ?_, ?_, ⟨_, (((X0.drewN _).set 1 _).set 2 _).drewN _, (wrap_u64 _).1, (wrap_u64 _).2⟩, grown_drawn (grown_set (grown_set (grown_drawn (grown_refl _ _) _) _ _) _ _) _⟩
    · exact (and255w _).1
    · exact (and255w _).2

set_option maxHeartbeats 4000000 in
set_option maxRecDepth 100000 in
theorem specPick (g : Nat) (a : Option Addr) (n c t : Nat) (bs : List Int) (m : Int) (w : World) (X : SrcAt w g a n c t) (hb : RowV w a (bvals bs)) (hq : ∀ z ∈ bs, 0 ≤ z ∧ z < 256) (hn : bs.length = n) (n48 : n ≤ 48) (ht : t ≤ 100000) (m0 : 2 ≤ m) (m1 : m ≤ 200) : Calls Try.prog 22 #[.pointer (some ⟨g, 0, none⟩), .int .i64 m] w fun e w' => ∃ r : Int, e = .returned (.int .i64 r) ∧ 0 ≤ r ∧ r < m ∧ SrcAt w' g a n c (t + 1) ∧ w.grownBy w' (some g) := by
  go_enter Try.func22, Try.ntmps22
  go_wp2_with fail
  refine (specNextD g a n c t bs _ X hb hq hn n48 ht).mono ?_
  rintro e w' ⟨r, rfl, r0, r1, X2, hg⟩
  have HX := Lib.hid X2; have HG := Lib.hid hg; clear X2 hg X hb
  have hne : (m == 0) = false := by simp; omega
  have hz : ¬ m = 0 := by omega
  have hr : r.tmod m = r % m := Int.tmod_eq_emod_of_nonneg r0
  have h1 : 0 ≤ r % m := Int.emod_nonneg _ (by omega)
  have h2 : r % m < m := Int.emod_lt_of_pos _ (by omega)
  have hw : IntKind.i64.wrap (r % m) = r % m := IntWalk.i64_in _ (by omega)
  go_wp2
  go_ret
  refine ⟨r % m, ?_, h1, h2, HX.out, HG.out⟩
  first | rfl | (simp only [hr, hw])

theorem specOne (g : Nat) (a : Option Addr) (n c t : Nat) (bs : List Int) (m : Int) (w : World) (X : SrcAt w g a n c t) (hb : RowV w a (bvals bs)) (hq : ∀ z ∈ bs, 0 ≤ z ∧ z < 256) (hn : bs.length = n) (n48 : n ≤ 48) (ht : t ≤ 100000) (m0 : 2 ≤ m) (m1 : m ≤ 200) : Calls Try.prog 23 #[.pointer (some ⟨g, 0, none⟩), .int .i64 m] w fun e w' => ∃ r : Bool, e = .returned (.bool r) ∧ SrcAt w' g a n c (t + 1) ∧ w.grownBy w' (some g) := by
  go_enter Try.func23, Try.ntmps23
  go_wp2_with fail
  refine (specPick g a n c t bs m _ X hb hq hn n48 ht m0 m1).mono ?_
  rintro e w' ⟨r, rfl, r0, r1, X2, hg⟩
  have HX := Lib.hid X2; have HG := Lib.hid hg; clear X2 hg X hb
  go_wp2
  go_ret
  exact ⟨_, rfl, HX.out, HG.out⟩

end Go.Proofs.Ytagjlfnlbfgfaaa

end

section

namespace Go.Proofs.Ytagjlfnlbfgfaaa
open Go Ieee Go.RowKit
set_option linter.unusedVariables false
set_option linter.unusedSimpArgs false

theorem grown_trans {w u v : World} {r : Option Nat} (h : w.grownBy u r) (k : u.grownBy v r) : w.grownBy v r :=
  ⟨k.os.trans h.os, k.tape.trans h.tape, k.output.trans h.output, Nat.le_trans h.size k.size, fun i hi hr => (k.block i (Nat.lt_of_lt_of_le hi h.size) hr).trans (h.block i hi hr)⟩
theorem grown_more {w u v : World} {r s : Option Nat} (h : w.grownBy u r) (k : u.grownBy v s) (hs : ∀ i, s = some i → w.heap.size ≤ i) : w.grownBy v r :=
  ⟨k.os.trans h.os, k.tape.trans h.tape, k.output.trans h.output, Nat.le_trans h.size k.size, fun i hi hr => (k.block i (Nat.lt_of_lt_of_le hi h.size) (fun e => by have := hs i e.symm; omega)).trans (h.block i hi hr)⟩
theorem grown_cell {w u : World} {r : Option Nat} (h : w.grownBy u r) {p : Addr} (hp : w.heap.size ≤ p.block) (v : Value) : w.grownBy (u.setCell p v) r :=
  ⟨h.os, h.tape, h.output, by have := h.size; simpa using this, fun i hi hr => (heap_setCell_other u p i v (by omega)).trans (h.block i hi hr)⟩
theorem grown_new {w u : World} {r : Option Nat} (h : w.grownBy u r) (o : Obj) : w.grownBy (u.alloc o) r := grown_next h (below_new u o)

theorem SrcAt.grown {w w' : World} {g : Nat} {a : Option Addr} {n c t : Nat} (h : SrcAt w g a n c t) {r : Option Nat} (hg : w.grownBy w' r) (hr : some g ≠ r) : SrcAt w' g a n c t := by
  obtain ⟨sd, X, h1, h2⟩ := h; exact ⟨sd, X.grown hg hr, h1, h2⟩
theorem SrcAt.later {w w' : World} {g : Nat} {a : Option Addr} {n c t : Nat} (h : SrcAt w g a n c t) (hb : Below w.heap.size w w') : SrcAt w' g a n c t := by
  obtain ⟨sd, X, h1, h2⟩ := h; exact ⟨sd, X.later hb, h1, h2⟩
theorem SrcAt.setOther {w : World} {g : Nat} {a : Option Addr} {n c t : Nat} (h : SrcAt w g a n c t) {p : Addr} (hp : g ≠ p.block) (v : Value) : SrcAt (w.setCell p v) g a n c t := by
  obtain ⟨sd, X, h1, h2⟩ := h; exact ⟨sd, X.setOther hp v, h1, h2⟩
theorem SrcAt.lt {w : World} {g : Nat} {a : Option Addr} {n c t : Nat} (h : SrcAt w g a n c t) : g < w.heap.size := by
  obtain ⟨sd, X, h1, h2⟩ := h; exact X.lt
theorem row_src {w w' : World} {g : Nat} {a : Option Addr} {vs : List Value} (h : RowV w a vs) (hg : w.grownBy w' (some g)) (hne : ∀ x, vs ≠ [] → a = some x → x.block ≠ g) : RowV w' a vs := fun i u hu => by
  obtain ⟨b, off, e, hc⟩ := h i u hu
  exact ⟨b, off, e, hg.cell hc (by have := hne _ (fun hv => by rw [hv] at hu; cases hu) e; simpa using this)⟩
/-- numbers of a list in memory of its own from block B on -/
def Lst (B : Nat) (w : World) (v : Value) (k : Nat) (xs : List Nat) : Prop := w.ownsRow B 58 1 v k (fvals xs)
theorem Lst.off {B : Nat} {w : World} {v : Value} {k : Nat} {xs : List Nat} (h : Lst B w v k xs) {g : Nat} (hg : g < B) : v.ownBlock = none ∨ v.ownBlock ≠ some g := by
  cases e : v.ownBlock with
  | none => exact .inl rfl
  | some j => right; intro he; injection he with he; have := (World.ownsRow.lt h j e).1; omega
theorem Lst.kept {B : Nat} {w w' : World} {v : Value} {k : Nat} {xs : List Nat} (h : Lst B w v k xs) {r : Option Nat} (hg : w.grownBy w' r) (hr : v.ownBlock = none ∨ v.ownBlock ≠ r) : Lst B w' v k xs := World.ownsRow.kept h hg hr
theorem Lst.later {B : Nat} {w w' : World} {v : Value} {k : Nat} {xs : List Nat} (h : Lst B w v k xs) (b : Below w.heap.size w w') : Lst B w' v k xs := World.ownsRow.kept h (grown_of_below b) (by cases v.ownBlock <;> simp)
theorem Lst.setFar {B : Nat} {w : World} {v : Value} {k : Nat} {xs : List Nat} (h : Lst B w v k xs) {p : Addr} (hp : p.block < B) (u : Value) : Lst B (w.setCell p u) v k xs :=
  World.ownsRow.kept h (row := some p.block) ⟨rfl, rfl, rfl, by simp, fun i hi hr => heap_setCell_other w p i u (fun e => hr (by rw [e]))⟩ (h.off hp)
theorem Lst.end {B : Nat} {w : World} {v : Value} {k : Nat} {xs : List Nat} (h : Lst B w v k xs) : ∃ a c, v = .slice a k c ∧ OwnV w B a (fvals xs) := by
  rcases h.2 with ⟨hv, h0⟩ | ⟨g, cap, cur, hv, _⟩
  · subst hv; subst h0; exact ⟨none, 0, rfl, OwnV.of_owned h⟩
  · subst hv; exact ⟨_, cap, rfl, OwnV.of_owned h⟩
def Apt (v u : Value) : Prop := ∀ j, v.ownBlock = some j → u.ownBlock ≠ some j
theorem apt_next {B : Nat} {w : World} {v u v' : Value} {k : Nat} {ys : List Nat} (h : Apt v u) (hu : Lst B w u k ys) (hv : v'.ownBlock = v.ownBlock ∨ v'.ownBlock = some w.heap.size) : Apt v' u := fun j hj he => by
  rcases hv with e | e
  · exact h j (by rw [← e]; exact hj) he
  · rw [e] at hj; injection hj with hj
    have := (World.ownsRow.lt hu j he).2; omega
theorem Apt.symm {v u : Value} (h : Apt v u) : Apt u v := fun j hj he => h j he hj
theorem Apt.or {v u : Value} (h : Apt v u) : u.ownBlock = none ∨ u.ownBlock ≠ v.ownBlock := by
  cases e : u.ownBlock with
  | none => exact .inl rfl
  | some j => right; intro he; exact h j he.symm e

def numB (m x : Nat) : Bool := inB m x && decide (x < 2 ^ 32)
def optB (m : Nat) : Option Nat → Bool
  | some b => numB m b
  | none => false
theorem speed_ok : ∀ r : Nat, r < 9 → optB 1056964608 (fop .quo .f32 (canon .f32 (floatOfInt .f32 (r : Int))) (canon .f32 1098907648)) = true := by decide +kernel
theorem loss_ok : ∀ r : Nat, r < 9 → optB 1065353216 (fop .quo .f32 (canon .f32 (floatOfInt .f32 (r : Int))) (canon .f32 1090519040)) = true := by decide +kernel
theorem good_of {m z : Nat} {o : Option Nat} (hc : canon .f32 z = o) (h : optB m o = true) : numB m z = true := by
  cases o with
  | none => cases h
  | some b => obtain ⟨rfl, _⟩ := canon_some hc; exact h
theorem speed_int {r : Int} (h0 : 0 ≤ r) (h1 : r < 9) {z : Nat} (hc : canon .f32 z = fop .quo .f32 (canon .f32 (floatOfInt .f32 r)) (canon .f32 1098907648)) : numB 1056964608 z = true := by
  obtain ⟨n, rfl⟩ := Int.eq_ofNat_of_zero_le h0
  exact good_of hc (speed_ok n (by omega))
theorem loss_int {r : Int} (h0 : 0 ≤ r) (h1 : r < 9) {z : Nat} (hc : canon .f32 z = fop .quo .f32 (canon .f32 (floatOfInt .f32 r)) (canon .f32 1090519040)) : numB 1065353216 z = true := by
  obtain ⟨n, rfl⟩ := Int.eq_ofNat_of_zero_le h0
  exact good_of hc (loss_ok n (by omega))
theorem good_snoc {m z : Nat} {xs : List Nat} (h : ∀ x ∈ xs, numB m x = true) (hz : numB m z = true) : ∀ x ∈ xs ++ [z], numB m x = true := fun x hx => by
  rcases List.mem_append.1 hx with h' | h'
  · exact h x h'
  · rw [List.mem_singleton.1 h']; exact hz
theorem valid_drawn {wd hi : Int} {xs ys : List Nat} (h1 : 3 ≤ wd) (h2 : wd ≤ 6) (h3 : 3 ≤ hi) (h4 : hi ≤ 6) (lx : (xs.length : Int) = wd * hi) (ly : (ys.length : Int) = wd * hi) (hx : ∀ x ∈ xs, numB 1056964608 x = true) (hy : ∀ x ∈ ys, numB 1065353216 x = true) : validB wd hi xs ys = true := by
  unfold validB
  simp only [Bool.and_eq_true, decide_eq_true_eq, List.all_eq_true]
  refine ⟨?_, lx, ly, fun x h => ?_, fun x h => ?_⟩
  · unfold sidesB; simp; omega
  · have := hx x h; unfold numB at this; simp at this; exact this.1
  · have := hy x h; unfold numB at this; simp at this; exact this.1
theorem good_lt {m : Nat} {xs : List Nat} (h : ∀ x ∈ xs, numB m x = true) : ∀ x ∈ xs, x < 2 ^ 32 := fun x hx => by
  have := h x hx; unfold numB at this; simp at this; exact this.2
theorem oneF_news (wr : World) (z : Nat) : ∀ (j : Nat) (u : Value), [Value.float .f32 z][j]? = some u → (wr.alloc (.cells #[.float .f32 z] 58)).cell? ((⟨wr.heap.size, 0, none⟩ : Addr).add j) = some u := by
  intro j u hu
  cases j with
  | zero => simp at hu; subst hu; exact (Blk.new wr #[.float .f32 z] 58).open.1 0
  | succ j => simp at hu
theorem oneF_cells (z : Nat) : ∀ u ∈ [Value.float .f32 z], u.oneCell' = true := by
  intro u hu; simp at hu; subst hu; rfl
theorem lst_some {w : World} {B : Nat} {e : TypeId} {v : Value} {k : Nat} {xs : List Value} (h : w.ownsRow B e 1 v (k + 1) xs) : ∃ g c, v = .slice (some ⟨g, 0, none⟩) (k + 1) c := by
  rcases h.2 with ⟨_, h0⟩ | ⟨g, cap, cur, hv, _⟩
  · omega
  · exact ⟨g, cap, hv⟩
theorem own_low {w : World} {B : Nat} {a : Option Addr} {vs : List Value} (h : OwnV w B a vs) {p : Addr} (hp : p.block < B) (v : Value) : OwnV (w.setCell p v) B a vs := by
  rcases h with h | ⟨g, cs, t, e, hB, hb, hv⟩
  · exact .inl h
  · exact .inr ⟨g, cs, t, e, hB, hb.setOther (by omega) v, hv⟩
theorem lst_next {B : Nat} {w' : World} {v' : Value} {k z : Nat} {xs : List Nat} (h : w'.ownsRow B 58 1 v' (k + 1) (fvals xs ++ [.float .f32 z])) : Lst B w' v' (k + 1) (xs ++ [z]) := by
  unfold Lst
  rw [show fvals (xs ++ [z]) = fvals xs ++ [.float .f32 z] by unfold fvals; rw [List.map_append]; rfl]; exact h

end Go.Proofs.Ytagjlfnlbfgfaaa

end

section

namespace Go.Proofs.Ytagjlfnlbfgfaaa
open Go Ieee Go.RowKit
set_option linter.unusedVariables false
set_option linter.unusedSimpArgs false

set_option maxHeartbeats 16000000 in
set_option maxRecDepth 100000 in
theorem specDrawOk (g : Nat) (a : Option Addr) (n c : Nat) (bs : List Int) (w : World) (X : SrcAt w g a n c 0) (hb : RowV w a (bvals bs)) (hq : ∀ z ∈ bs, 0 ≤ z ∧ z < 256) (hn : bs.length = n) (n48 : n ≤ 48) (ga : ∀ x, bvals bs ≠ [] → a = some x → x.block ≠ g) :
    Calls Try.prog 11 #[.pointer (some ⟨g, 0, none⟩)] w fun e w' => ∃ (wd hi : Int) (wb : Bool) (a0 a1 : Option Addr) (c0 c1 : Nat) (xs ys : List Nat), e = .returned (.agg #[.int .i64 wd, .int .i64 hi, .bool wb, .slice a0 xs.length c0, .slice a1 ys.length c1]) ∧ validB wd hi xs ys = true ∧ wd ≤ 6 ∧ hi ≤ 6 ∧ OwnV w' w.heap.size a0 (fvals xs) ∧ OwnV w' w.heap.size a1 (fvals ys) ∧ (∀ x ∈ xs, x < 2 ^ 32) ∧ (∀ x ∈ ys, x < 2 ^ 32) ∧ w.grownBy w' (some g) := by
  obtain ⟨ti, hi0, hz0, hz1, hz2⟩ := info_parts Try.infoF32
  have HI := Lib.hid hi0; have HZ0 := Lib.hid hz0; have HZ1 := Lib.hid hz1; have HZ2 := Lib.hid hz2; clear hi0 hz0 hz1 hz2
  have HQ := Lib.hid hq; have HN := Lib.hid hn; have HGA := Lib.hid ga; have HBS := Lib.hid hb; clear hq hn ga hb
  have gl := X.lt
  have R := Blk.new w #[.int .i64 0, .int .i64 0, .bool false, .slice none 0 0, .slice none 0 0] 26
  have q9 := below_new w (.cells #[.int .i64 0, .int .i64 0, .bool false, .slice none 0 0, .slice none 0 0] 26)
  have X1 := X.later q9; clear X; have X := X1; clear X1
  have HG := Lib.hid (grown_new (grown_refl w (some g)) (.cells #[.int .i64 0, .int .i64 0, .bool false, .slice none 0 0, .slice none 0 0] 26))
  go_enter Try.func11, Try.ntmps11
  go_wp2_with fail
  generalize w.alloc (.cells #[.int .i64 0, .int .i64 0, .bool false, .slice none 0 0, .slice none 0 0] 26) = u1 at *
  clear q9
  refine (specPick g a n c _ bs 4 _ X (row_src HBS.out HG.out HGA.out) HQ.out HN.out n48 (by omega) (by decide) (by decide)).mono ?_
  rintro e u2 ⟨r1, rfl, r10, r11, X2, hg⟩
  have sg2 := hg.size
  clear X; have X := X2; clear X2
  replace R := R.grown hg (by simp; omega)
  replace HG := Lib.hid (grown_trans HG.out hg); clear hg
  go_wp2_with fail
  refine (specOne g a n c _ bs 2 _ X (row_src HBS.out HG.out HGA.out) HQ.out HN.out n48 (by omega) (by decide) (by decide)).mono ?_
  rintro e u3 ⟨wb, rfl, X2, hg⟩
  have sg3 := hg.size
  clear X; have X := X2; clear X2
  replace R := R.grown hg (by simp; omega)
  replace HG := Lib.hid (grown_trans HG.out hg); clear hg
  go_upto_region 2 with (fail)
  have szg := HG.out.size
  have rlt := R.lt
  have O := Blk.new u3 #[.int .i64 (3 + r1), .int .i64 0, .bool wb, .slice none 0 0, .slice none 0 0] 26
  have q9 := below_new u3 (.cells #[.int .i64 (3 + r1), .int .i64 0, .bool wb, .slice none 0 0, .slice none 0 0] 26)
  replace R := R.later q9; have X1 := X.later q9; clear X; have X := X1; clear X1
  replace HG := Lib.hid (grown_new HG.out (.cells #[.int .i64 (3 + r1), .int .i64 0, .bool wb, .slice none 0 0, .slice none 0 0] 26))
  obtain ⟨go_, hgo⟩ : ∃ go_, go_ = u3.heap.size := ⟨_, rfl⟩
  rw [← hgo] at O
  (try simp only [← hgo])
  have olt := O.lt
  have ogt : w.heap.size < go_ := by omega
  generalize u3.alloc (.cells #[.int .i64 (3 + r1), .int .i64 0, .bool wb, .slice none 0 0, .slice none 0 0] 26) = u4 at *
  clear hgo q9
  have xlt := X.lt
  have ng : g ≠ go_ := by omega
  have nr : w.heap.size ≠ go_ := by omega
  go_wp2_with fail
  refine (specPick g a n c _ bs 4 _ X (row_src HBS.out HG.out HGA.out) HQ.out HN.out n48 (by omega) (by decide) (by decide)).mono ?_
  rintro e u5 ⟨r2, rfl, r20, r21, X2, hg⟩
  have sg5 := hg.size
  clear X; have X := X2; clear X2
  replace R := R.grown hg (by simp; omega)
  replace O := O.grown hg (by simp; omega)
  replace HG := Lib.hid (grown_trans HG.out hg); clear hg
  obtain ⟨Oc, Of⟩ := O.open
  go_upto_region 3 with (fail)
  clear Oc Of
  have XX := X.setOther (p := ⟨go_, 1, none⟩) ng (.int .i64 (3 + r2)); clear X; have X := XX; clear XX
  replace R := R.setOther (p := ⟨go_, 1, none⟩) nr (.int .i64 (3 + r2))
  replace O := O.set 1 (.int .i64 (3 + r2))
  replace HG := Lib.hid (grown_cell HG.out (p := ⟨go_, 1, none⟩) (by dsimp only; omega) (.int .i64 (3 + r2)))
  have O2 : Blk (u5.setCell ⟨go_, 1, none⟩ (.int .i64 (3 + r2))) go_ #[.int .i64 (3 + r1), .int .i64 (3 + r2), .bool wb, .slice none 0 0, .slice none 0 0] 26 := O; clear O; have O := O2; clear O2
  have szo : u5.heap.size = (u5.setCell ⟨go_, 1, none⟩ (.int .i64 (3 + r2))).heap.size := by simp
  generalize u5.setCell ⟨go_, 1, none⟩ (.int .i64 (3 + r2)) = u6 at *
  go_wp2_with fail
  refine (specOne g a n c _ bs 2 _ X (row_src HBS.out HG.out HGA.out) HQ.out HN.out n48 (by omega) (by decide) (by decide)).mono ?_
  rintro e u7 ⟨pl, rfl, X2, hg⟩
  have sg7 := hg.size
  clear X; have X := X2; clear X2
  replace R := R.grown hg (by simp; omega)
  replace O := O.grown hg (by simp; omega)
  replace HG := Lib.hid (grown_trans HG.out hg); clear hg
  obtain ⟨wd, hwd⟩ : ∃ wd, wd = 3 + r1 := ⟨_, rfl⟩
  obtain ⟨hi, hhi⟩ : ∃ hi, hi = 3 + r2 := ⟨_, rfl⟩
  rw [← hwd, ← hhi] at O
  have w3 : 3 ≤ wd := by omega
  have w6 : wd ≤ 6 := by omega
  have h3 : 3 ≤ hi := by omega
  have h6 : hi ≤ 6 := by omega
  have hp0 : 0 ≤ wd * hi := Int.mul_nonneg (by omega) (by omega)
  have hp1 : wd * hi ≤ 36 := by have h1 := Int.mul_le_mul_of_nonneg_right w6 (show 0 ≤ hi by omega); omega
  (try simp only [← hwd, ← hhi])
  clear hwd hhi
  obtain ⟨m, hm⟩ := Int.eq_ofNat_of_zero_le hp0
  have HM := Lib.hid hm
  have m36 : m ≤ 36 := by omega
  have hw9 : IntKind.i64.wrap (wd * hi) = (m : Int) := by rw [hm]; exact IntWalk.i64_in _ (by omega)
  clear hm hp0 hp1
  have L0 : Hid (Lst (go_ + 1) u7 (.slice none 0 0) 0 []) := Lib.hid (World.ownsRow_nil _ _ _ _)
  have AP : Hid (Apt (.slice none 0 0) (.slice none 0 0)) := Lib.hid (fun j hj => by cases hj)
  have GE : Hid (∀ mm, ∀ x ∈ ([] : List Nat), numB mm x = true) := Lib.hid (fun _ x hx => by cases hx)
  obtain ⟨Oc, Of⟩ := O.open
  go_wp2
  go_loopw [5] (fun iv wr => ∃ (k t : Nat) (v0 v1 : Value) (xs ys : List Nat), k ≤ m ∧ iv = .int .i64 k ∧ t ≤ 4 + 3 * k ∧ SrcAt wr g a n c t ∧ Blk wr w.heap.size #[.int .i64 0, .int .i64 0, .bool false, .slice none 0 0, .slice none 0 0] 26 ∧ Blk wr go_ #[.int .i64 wd, .int .i64 hi, .bool wb, v0, v1] 26 ∧ Lst (go_ + 1) wr v0 k xs ∧ Lst (go_ + 1) wr v1 k ys ∧ Apt v0 v1 ∧ (∀ x ∈ xs, numB 1056964608 x = true) ∧ (∀ x ∈ ys, numB 1065353216 x = true) ∧ w.grownBy wr (some g)) (fun iv _ => m - (intOf iv).toNat)
  case atStart => exact ⟨0, 4, _, _, [], [], Nat.zero_le _, rfl, by omega, X, R, O, L0.out, L0.out, AP.out, GE.out _, GE.out _, HG.out⟩
  case round =>
    clear O X R L0 AP HG Oc Of
    obtain ⟨k, t, v0, v1, xs, ys, hk, rfl, ht, X, R, O, l0, l1, ap, gx, gy, hg⟩ := hrel
    have L0 := Lib.hid l0; have L1 := Lib.hid l1; have AP := Lib.hid ap; have GX := Lib.hid gx; have GY := Lib.hid gy; have HG := Lib.hid hg; clear l0 l1 ap gx gy hg
    have szw := HG.out.size
    obtain ⟨u1, rfl⟩ : ∃ z : World, z = wr := ⟨wr, rfl⟩
    have olt2 := O.lt
    by_cases hlt : k < m
    · skip
      have hki : (k : Int) < (m : Int) := by omega
      rcases pl with _ | _
      · skip
        obtain ⟨Oc, Of⟩ := O.open
        go_wp2_with fail
        clear Oc Of
        refine (specPick g a n c _ bs 9 _ X (row_src HBS.out HG.out HGA.out) HQ.out HN.out n48 (by omega) (by decide) (by decide)).mono ?_
        rintro e u2 ⟨ra, rfl, ra0, ra1, X2, hg⟩
        have sg2 := hg.size
        clear X; have X := X2; clear X2
        replace R := R.grown hg (by simp; omega)
        replace O := O.grown hg (by simp; omega)
        replace L0 := Lib.hid (L0.out.kept hg (L0.out.off (by omega)))
        replace L1 := Lib.hid (L1.out.kept hg (L1.out.off (by omega)))
        replace HG := Lib.hid (grown_trans HG.out hg); clear hg
        go_upto_region 11 with (refine wpList_arith rfl _ _ _ _ _ rfl rfl .f32 _ _ rfl rfl ?_; intro za nn hc hb_; have H_za := Lib.hid hc; clear hc; replace hb_ : za < 2 ^ 32 := hb_; have q_ : Below u2.heap.size u2 (u2.drewN nn) := below_drewN (Below.refl _ _) _; have X1 := X.later q_; clear X; have X := X1; clear X1; replace R := R.later q_; replace O := O.later q_; replace L0 := Lib.hid (L0.out.later q_); replace L1 := Lib.hid (L1.out.later q_); replace HG := Lib.hid (grown_next HG.out q_); clear q_; generalize u2.drewN nn = u3 at *)
        have HA := Lib.hid (speed_int ra0 ra1 H_za.out); clear H_za
        go_wp2_with fail
        refine (specOne g a n c _ bs 3 _ X (row_src HBS.out HG.out HGA.out) HQ.out HN.out n48 (by omega) (by decide) (by decide)).mono ?_
        rintro e u4 ⟨bb, rfl, X2, hg⟩
        have sg4 := hg.size
        clear X; have X := X2; clear X2
        replace R := R.grown hg (by simp; omega)
        replace O := O.grown hg (by simp; omega)
        replace L0 := Lib.hid (L0.out.kept hg (L0.out.off (by omega)))
        replace L1 := Lib.hid (L1.out.kept hg (L1.out.off (by omega)))
        replace HG := Lib.hid (grown_trans HG.out hg); clear hg
        rcases bb with _ | _
        · skip
          obtain ⟨Oc, Of⟩ := O.open
          have hown := L0.out
          have ozz := O.lt
          go_upto_region 14 with (at_builtin; refine wpList_append_own_at _ rfl _ _ 24 rfl (go_ + 1) 58 ti (.float .f32 0) 1 4 Try.underlying24 HI.out HZ0.out HZ1.out HZ2.out rfl (by decide) v0 k (fvals xs) rfl (hown.later (below_new _ _)) ⟨u4.heap.size, 0, none⟩ 1 1 [.float .f32 za] rfl rfl (oneF_news _ _) (oneF_cells _) (by unfold maxLen; omega) (by omega) (by simp; omega) ?_; intro v' w9 hown' hgrow _ hblk; obtain ⟨g8, k8, rfl⟩ := lst_some hown'; have HBK := Lib.hid hblk; clear hblk; have bn := below_new u4 (.cells #[.float .f32 za] 58); have OWN0 := Lib.hid (lst_next hown'); have hrow : ∀ i, v0.ownBlock = some i → go_ + 1 ≤ i := (fun i hi => (World.ownsRow.lt hown i hi).1); have RN := (R.later bn).grown hgrow (fun e => by have := hrow _ e.symm; omega); have ON := (O.later bn).grown hgrow (fun e => by have := hrow _ e.symm; omega); have XN := (X.later bn).grown hgrow (fun e => by have := hrow _ e.symm; omega); have HGN := Lib.hid (grown_more (grown_next HG.out bn) hgrow (fun i hi => by have := hrow _ hi; omega)); have MN := Lib.hid ((L1.out.later bn).kept hgrow AP.out.or); have AP1 : Hid (Apt v1 (.slice (some ⟨g8, 0, none⟩) (k + 1) k8)) := Lib.hid (apt_next AP.out (L1.out.later bn) HBK.out).symm; clear Oc Of hown hown' hgrow hrow bn HBK R O X; obtain ⟨Nc, Nf⟩ := ON.open)
          clear Nc Nf
          have R := RN.setOther (p := ⟨go_, 3, none⟩) nr (.slice (some ⟨g8, 0, none⟩) (k + 1) k8); have X := XN.setOther (p := ⟨go_, 3, none⟩) ng (.slice (some ⟨g8, 0, none⟩) (k + 1) k8); have O := ON.set 3 (.slice (some ⟨g8, 0, none⟩) (k + 1) k8); clear RN XN ON
          replace HG := Lib.hid (grown_cell HGN.out (p := ⟨go_, 3, none⟩) (by dsimp only; omega) (.slice (some ⟨g8, 0, none⟩) (k + 1) k8)); clear HGN
          replace L0 := Lib.hid (OWN0.out.setFar (p := ⟨go_, 3, none⟩) (by dsimp only; omega) (.slice (some ⟨g8, 0, none⟩) (k + 1) k8)); replace L1 := Lib.hid (MN.out.setFar (p := ⟨go_, 3, none⟩) (by dsimp only; omega) (.slice (some ⟨g8, 0, none⟩) (k + 1) k8)); clear OWN0 MN
          have O2 : Blk (w9.setCell ⟨go_, 3, none⟩ (.slice (some ⟨g8, 0, none⟩) (k + 1) k8)) go_ #[.int .i64 wd, .int .i64 hi, .bool wb, (.slice (some ⟨g8, 0, none⟩) (k + 1) k8), v1] 26 := O; clear O; have O := O2; clear O2
          generalize w9.setCell ⟨go_, 3, none⟩ (.slice (some ⟨g8, 0, none⟩) (k + 1) k8) = u5 at *
          obtain ⟨Oc, Of⟩ := O.open
          have hown := L1.out
          have ozz := O.lt
          go_wp2_with (at_builtin; refine wpList_append_own_at _ rfl _ _ 24 rfl (go_ + 1) 58 ti (.float .f32 0) 1 4 Try.underlying24 HI.out HZ0.out HZ1.out HZ2.out rfl (by decide) v1 k (fvals ys) rfl (hown.later (below_new _ _)) ⟨u5.heap.size, 0, none⟩ 1 1 [.float .f32 0] rfl rfl (oneF_news _ _) (oneF_cells _) (by unfold maxLen; omega) (by omega) (by simp; omega) ?_; intro v' w9 hown' hgrow _ hblk; obtain ⟨g9, k9, rfl⟩ := lst_some hown'; have HBK := Lib.hid hblk; clear hblk; have bn := below_new u5 (.cells #[.float .f32 0] 58); have OWN1 := Lib.hid (lst_next hown'); have hrow : ∀ i, v1.ownBlock = some i → go_ + 1 ≤ i := (fun i hi => (World.ownsRow.lt hown i hi).1); have RN := (R.later bn).grown hgrow (fun e => by have := hrow _ e.symm; omega); have ON := (O.later bn).grown hgrow (fun e => by have := hrow _ e.symm; omega); have XN := (X.later bn).grown hgrow (fun e => by have := hrow _ e.symm; omega); have HGN := Lib.hid (grown_more (grown_next HG.out bn) hgrow (fun i hi => by have := hrow _ hi; omega)); have MN := Lib.hid ((L0.out.later bn).kept hgrow AP1.out.or); have AP2 : Hid (Apt (.slice (some ⟨g8, 0, none⟩) (k + 1) k8) (.slice (some ⟨g9, 0, none⟩) (k + 1) k9)) := Lib.hid (apt_next AP1.out (L0.out.later bn) HBK.out).symm; clear Oc Of hown hown' hgrow hrow bn HBK R O X; obtain ⟨Nc, Nf⟩ := ON.open)
          clear Nc Nf
          have R := RN.setOther (p := ⟨go_, 4, none⟩) nr (.slice (some ⟨g9, 0, none⟩) (k + 1) k9); have X := XN.setOther (p := ⟨go_, 4, none⟩) ng (.slice (some ⟨g9, 0, none⟩) (k + 1) k9); have O := ON.set 4 (.slice (some ⟨g9, 0, none⟩) (k + 1) k9); clear RN XN ON
          replace HG := Lib.hid (grown_cell HGN.out (p := ⟨go_, 4, none⟩) (by dsimp only; omega) (.slice (some ⟨g9, 0, none⟩) (k + 1) k9)); clear HGN
          replace L1 := Lib.hid (OWN1.out.setFar (p := ⟨go_, 4, none⟩) (by dsimp only; omega) (.slice (some ⟨g9, 0, none⟩) (k + 1) k9)); replace L0 := Lib.hid (MN.out.setFar (p := ⟨go_, 4, none⟩) (by dsimp only; omega) (.slice (some ⟨g9, 0, none⟩) (k + 1) k9)); clear OWN1 MN
          have O2 : Blk (w9.setCell ⟨go_, 4, none⟩ (.slice (some ⟨g9, 0, none⟩) (k + 1) k9)) go_ #[.int .i64 wd, .int .i64 hi, .bool wb, (.slice (some ⟨g8, 0, none⟩) (k + 1) k8), (.slice (some ⟨g9, 0, none⟩) (k + 1) k9)] 26 := O; clear O; have O := O2; clear O2
          go_roundw
          case rel => exact ⟨k + 1, _, _, _, _, _, by omega, by go_num, by omega, X, R, O, L0.out, L1.out, AP2.out, good_snoc GX.out HA.out, good_snoc GY.out (by decide +kernel), HG.out⟩
          case measure => simp [intOf]; omega
        · skip
          go_wp2_with fail
          refine (specPick g a n c _ bs 9 _ X (row_src HBS.out HG.out HGA.out) HQ.out HN.out n48 (by omega) (by decide) (by decide)).mono ?_
          rintro e u5 ⟨rb, rfl, rb0, rb1, X2, hg⟩
          have sg5 := hg.size
          clear X; have X := X2; clear X2
          replace R := R.grown hg (by simp; omega)
          replace O := O.grown hg (by simp; omega)
          replace L0 := Lib.hid (L0.out.kept hg (L0.out.off (by omega)))
          replace L1 := Lib.hid (L1.out.kept hg (L1.out.off (by omega)))
          replace HG := Lib.hid (grown_trans HG.out hg); clear hg
          go_upto_region 13 with (refine wpList_arith rfl _ _ _ _ _ rfl rfl .f32 _ _ rfl rfl ?_; intro zb nn hc hb_; have H_zb := Lib.hid hc; clear hc; replace hb_ : zb < 2 ^ 32 := hb_; have q_ : Below u5.heap.size u5 (u5.drewN nn) := below_drewN (Below.refl _ _) _; have X1 := X.later q_; clear X; have X := X1; clear X1; replace R := R.later q_; replace O := O.later q_; replace L0 := Lib.hid (L0.out.later q_); replace L1 := Lib.hid (L1.out.later q_); replace HG := Lib.hid (grown_next HG.out q_); clear q_; generalize u5.drewN nn = u6 at *)
          have HBB := Lib.hid (loss_int rb0 rb1 H_zb.out); clear H_zb
          obtain ⟨Oc, Of⟩ := O.open
          have hown := L0.out
          have ozz := O.lt
          go_upto_region 14 with (at_builtin; refine wpList_append_own_at _ rfl _ _ 24 rfl (go_ + 1) 58 ti (.float .f32 0) 1 4 Try.underlying24 HI.out HZ0.out HZ1.out HZ2.out rfl (by decide) v0 k (fvals xs) rfl (hown.later (below_new _ _)) ⟨u6.heap.size, 0, none⟩ 1 1 [.float .f32 za] rfl rfl (oneF_news _ _) (oneF_cells _) (by unfold maxLen; omega) (by omega) (by simp; omega) ?_; intro v' w9 hown' hgrow _ hblk; obtain ⟨g8, k8, rfl⟩ := lst_some hown'; have HBK := Lib.hid hblk; clear hblk; have bn := below_new u6 (.cells #[.float .f32 za] 58); have OWN0 := Lib.hid (lst_next hown'); have hrow : ∀ i, v0.ownBlock = some i → go_ + 1 ≤ i := (fun i hi => (World.ownsRow.lt hown i hi).1); have RN := (R.later bn).grown hgrow (fun e => by have := hrow _ e.symm; omega); have ON := (O.later bn).grown hgrow (fun e => by have := hrow _ e.symm; omega); have XN := (X.later bn).grown hgrow (fun e => by have := hrow _ e.symm; omega); have HGN := Lib.hid (grown_more (grown_next HG.out bn) hgrow (fun i hi => by have := hrow _ hi; omega)); have MN := Lib.hid ((L1.out.later bn).kept hgrow AP.out.or); have AP1 : Hid (Apt v1 (.slice (some ⟨g8, 0, none⟩) (k + 1) k8)) := Lib.hid (apt_next AP.out (L1.out.later bn) HBK.out).symm; clear Oc Of hown hown' hgrow hrow bn HBK R O X; obtain ⟨Nc, Nf⟩ := ON.open)
          clear Nc Nf
          have R := RN.setOther (p := ⟨go_, 3, none⟩) nr (.slice (some ⟨g8, 0, none⟩) (k + 1) k8); have X := XN.setOther (p := ⟨go_, 3, none⟩) ng (.slice (some ⟨g8, 0, none⟩) (k + 1) k8); have O := ON.set 3 (.slice (some ⟨g8, 0, none⟩) (k + 1) k8); clear RN XN ON
          replace HG := Lib.hid (grown_cell HGN.out (p := ⟨go_, 3, none⟩) (by dsimp only; omega) (.slice (some ⟨g8, 0, none⟩) (k + 1) k8)); clear HGN
          replace L0 := Lib.hid (OWN0.out.setFar (p := ⟨go_, 3, none⟩) (by dsimp only; omega) (.slice (some ⟨g8, 0, none⟩) (k + 1) k8)); replace L1 := Lib.hid (MN.out.setFar (p := ⟨go_, 3, none⟩) (by dsimp only; omega) (.slice (some ⟨g8, 0, none⟩) (k + 1) k8)); clear OWN0 MN
          have O2 : Blk (w9.setCell ⟨go_, 3, none⟩ (.slice (some ⟨g8, 0, none⟩) (k + 1) k8)) go_ #[.int .i64 wd, .int .i64 hi, .bool wb, (.slice (some ⟨g8, 0, none⟩) (k + 1) k8), v1] 26 := O; clear O; have O := O2; clear O2
          generalize w9.setCell ⟨go_, 3, none⟩ (.slice (some ⟨g8, 0, none⟩) (k + 1) k8) = u7 at *
          obtain ⟨Oc, Of⟩ := O.open
          have hown := L1.out
          have ozz := O.lt
          go_wp2_with (at_builtin; refine wpList_append_own_at _ rfl _ _ 24 rfl (go_ + 1) 58 ti (.float .f32 0) 1 4 Try.underlying24 HI.out HZ0.out HZ1.out HZ2.out rfl (by decide) v1 k (fvals ys) rfl (hown.later (below_new _ _)) ⟨u7.heap.size, 0, none⟩ 1 1 [.float .f32 zb] rfl rfl (oneF_news _ _) (oneF_cells _) (by unfold maxLen; omega) (by omega) (by simp; omega) ?_; intro v' w9 hown' hgrow _ hblk; obtain ⟨g9, k9, rfl⟩ := lst_some hown'; have HBK := Lib.hid hblk; clear hblk; have bn := below_new u7 (.cells #[.float .f32 zb] 58); have OWN1 := Lib.hid (lst_next hown'); have hrow : ∀ i, v1.ownBlock = some i → go_ + 1 ≤ i := (fun i hi => (World.ownsRow.lt hown i hi).1); have RN := (R.later bn).grown hgrow (fun e => by have := hrow _ e.symm; omega); have ON := (O.later bn).grown hgrow (fun e => by have := hrow _ e.symm; omega); have XN := (X.later bn).grown hgrow (fun e => by have := hrow _ e.symm; omega); have HGN := Lib.hid (grown_more (grown_next HG.out bn) hgrow (fun i hi => by have := hrow _ hi; omega)); have MN := Lib.hid ((L0.out.later bn).kept hgrow AP1.out.or); have AP2 : Hid (Apt (.slice (some ⟨g8, 0, none⟩) (k + 1) k8) (.slice (some ⟨g9, 0, none⟩) (k + 1) k9)) := Lib.hid (apt_next AP1.out (L0.out.later bn) HBK.out).symm; clear Oc Of hown hown' hgrow hrow bn HBK R O X; obtain ⟨Nc, Nf⟩ := ON.open)
          clear Nc Nf
          have R := RN.setOther (p := ⟨go_, 4, none⟩) nr (.slice (some ⟨g9, 0, none⟩) (k + 1) k9); have X := XN.setOther (p := ⟨go_, 4, none⟩) ng (.slice (some ⟨g9, 0, none⟩) (k + 1) k9); have O := ON.set 4 (.slice (some ⟨g9, 0, none⟩) (k + 1) k9); clear RN XN ON
          replace HG := Lib.hid (grown_cell HGN.out (p := ⟨go_, 4, none⟩) (by dsimp only; omega) (.slice (some ⟨g9, 0, none⟩) (k + 1) k9)); clear HGN
          replace L1 := Lib.hid (OWN1.out.setFar (p := ⟨go_, 4, none⟩) (by dsimp only; omega) (.slice (some ⟨g9, 0, none⟩) (k + 1) k9)); replace L0 := Lib.hid (MN.out.setFar (p := ⟨go_, 4, none⟩) (by dsimp only; omega) (.slice (some ⟨g9, 0, none⟩) (k + 1) k9)); clear OWN1 MN
          have O2 : Blk (w9.setCell ⟨go_, 4, none⟩ (.slice (some ⟨g9, 0, none⟩) (k + 1) k9)) go_ #[.int .i64 wd, .int .i64 hi, .bool wb, (.slice (some ⟨g8, 0, none⟩) (k + 1) k8), (.slice (some ⟨g9, 0, none⟩) (k + 1) k9)] 26 := O; clear O; have O := O2; clear O2
          go_roundw
          case rel => exact ⟨k + 1, _, _, _, _, _, by omega, by go_num, by omega, X, R, O, L0.out, L1.out, AP2.out, good_snoc GX.out HA.out, good_snoc GY.out HBB.out, HG.out⟩
          case measure => simp [intOf]; omega
      · skip
        obtain ⟨Oc, Of⟩ := O.open
        have hown := L0.out
        have ozz := O.lt
        go_upto_region 14 with (at_builtin; refine wpList_append_own_at _ rfl _ _ 24 rfl (go_ + 1) 58 ti (.float .f32 0) 1 4 Try.underlying24 HI.out HZ0.out HZ1.out HZ2.out rfl (by decide) v0 k (fvals xs) rfl (hown.later (below_new _ _)) ⟨u1.heap.size, 0, none⟩ 1 1 [.float .f32 1056964608] rfl rfl (oneF_news _ _) (oneF_cells _) (by unfold maxLen; omega) (by omega) (by simp; omega) ?_; intro v' w9 hown' hgrow _ hblk; obtain ⟨g8, k8, rfl⟩ := lst_some hown'; have HBK := Lib.hid hblk; clear hblk; have bn := below_new u1 (.cells #[.float .f32 1056964608] 58); have OWN0 := Lib.hid (lst_next hown'); have hrow : ∀ i, v0.ownBlock = some i → go_ + 1 ≤ i := (fun i hi => (World.ownsRow.lt hown i hi).1); have RN := (R.later bn).grown hgrow (fun e => by have := hrow _ e.symm; omega); have ON := (O.later bn).grown hgrow (fun e => by have := hrow _ e.symm; omega); have XN := (X.later bn).grown hgrow (fun e => by have := hrow _ e.symm; omega); have HGN := Lib.hid (grown_more (grown_next HG.out bn) hgrow (fun i hi => by have := hrow _ hi; omega)); have MN := Lib.hid ((L1.out.later bn).kept hgrow AP.out.or); have AP1 : Hid (Apt v1 (.slice (some ⟨g8, 0, none⟩) (k + 1) k8)) := Lib.hid (apt_next AP.out (L1.out.later bn) HBK.out).symm; clear Oc Of hown hown' hgrow hrow bn HBK R O X; obtain ⟨Nc, Nf⟩ := ON.open)
        clear Nc Nf
        have R := RN.setOther (p := ⟨go_, 3, none⟩) nr (.slice (some ⟨g8, 0, none⟩) (k + 1) k8); have X := XN.setOther (p := ⟨go_, 3, none⟩) ng (.slice (some ⟨g8, 0, none⟩) (k + 1) k8); have O := ON.set 3 (.slice (some ⟨g8, 0, none⟩) (k + 1) k8); clear RN XN ON
        replace HG := Lib.hid (grown_cell HGN.out (p := ⟨go_, 3, none⟩) (by dsimp only; omega) (.slice (some ⟨g8, 0, none⟩) (k + 1) k8)); clear HGN
        replace L0 := Lib.hid (OWN0.out.setFar (p := ⟨go_, 3, none⟩) (by dsimp only; omega) (.slice (some ⟨g8, 0, none⟩) (k + 1) k8)); replace L1 := Lib.hid (MN.out.setFar (p := ⟨go_, 3, none⟩) (by dsimp only; omega) (.slice (some ⟨g8, 0, none⟩) (k + 1) k8)); clear OWN0 MN
        have O2 : Blk (w9.setCell ⟨go_, 3, none⟩ (.slice (some ⟨g8, 0, none⟩) (k + 1) k8)) go_ #[.int .i64 wd, .int .i64 hi, .bool wb, (.slice (some ⟨g8, 0, none⟩) (k + 1) k8), v1] 26 := O; clear O; have O := O2; clear O2
        generalize w9.setCell ⟨go_, 3, none⟩ (.slice (some ⟨g8, 0, none⟩) (k + 1) k8) = u2 at *
        obtain ⟨Oc, Of⟩ := O.open
        have hown := L1.out
        have ozz := O.lt
        go_wp2_with (at_builtin; refine wpList_append_own_at _ rfl _ _ 24 rfl (go_ + 1) 58 ti (.float .f32 0) 1 4 Try.underlying24 HI.out HZ0.out HZ1.out HZ2.out rfl (by decide) v1 k (fvals ys) rfl (hown.later (below_new _ _)) ⟨u2.heap.size, 0, none⟩ 1 1 [.float .f32 0] rfl rfl (oneF_news _ _) (oneF_cells _) (by unfold maxLen; omega) (by omega) (by simp; omega) ?_; intro v' w9 hown' hgrow _ hblk; obtain ⟨g9, k9, rfl⟩ := lst_some hown'; have HBK := Lib.hid hblk; clear hblk; have bn := below_new u2 (.cells #[.float .f32 0] 58); have OWN1 := Lib.hid (lst_next hown'); have hrow : ∀ i, v1.ownBlock = some i → go_ + 1 ≤ i := (fun i hi => (World.ownsRow.lt hown i hi).1); have RN := (R.later bn).grown hgrow (fun e => by have := hrow _ e.symm; omega); have ON := (O.later bn).grown hgrow (fun e => by have := hrow _ e.symm; omega); have XN := (X.later bn).grown hgrow (fun e => by have := hrow _ e.symm; omega); have HGN := Lib.hid (grown_more (grown_next HG.out bn) hgrow (fun i hi => by have := hrow _ hi; omega)); have MN := Lib.hid ((L0.out.later bn).kept hgrow AP1.out.or); have AP2 : Hid (Apt (.slice (some ⟨g8, 0, none⟩) (k + 1) k8) (.slice (some ⟨g9, 0, none⟩) (k + 1) k9)) := Lib.hid (apt_next AP1.out (L0.out.later bn) HBK.out).symm; clear Oc Of hown hown' hgrow hrow bn HBK R O X; obtain ⟨Nc, Nf⟩ := ON.open)
        clear Nc Nf
        have R := RN.setOther (p := ⟨go_, 4, none⟩) nr (.slice (some ⟨g9, 0, none⟩) (k + 1) k9); have X := XN.setOther (p := ⟨go_, 4, none⟩) ng (.slice (some ⟨g9, 0, none⟩) (k + 1) k9); have O := ON.set 4 (.slice (some ⟨g9, 0, none⟩) (k + 1) k9); clear RN XN ON
        replace HG := Lib.hid (grown_cell HGN.out (p := ⟨go_, 4, none⟩) (by dsimp only; omega) (.slice (some ⟨g9, 0, none⟩) (k + 1) k9)); clear HGN
        replace L1 := Lib.hid (OWN1.out.setFar (p := ⟨go_, 4, none⟩) (by dsimp only; omega) (.slice (some ⟨g9, 0, none⟩) (k + 1) k9)); replace L0 := Lib.hid (MN.out.setFar (p := ⟨go_, 4, none⟩) (by dsimp only; omega) (.slice (some ⟨g9, 0, none⟩) (k + 1) k9)); clear OWN1 MN
        have O2 : Blk (w9.setCell ⟨go_, 4, none⟩ (.slice (some ⟨g9, 0, none⟩) (k + 1) k9)) go_ #[.int .i64 wd, .int .i64 hi, .bool wb, (.slice (some ⟨g8, 0, none⟩) (k + 1) k8), (.slice (some ⟨g9, 0, none⟩) (k + 1) k9)] 26 := O; clear O; have O := O2; clear O2
        go_roundw
        case rel => exact ⟨k + 1, _, _, _, _, _, by omega, by go_num, by omega, X, R, O, L0.out, L1.out, AP2.out, good_snoc GX.out (by decide +kernel), good_snoc GY.out (by decide +kernel), HG.out⟩
        case measure => simp [intOf]; omega
    · skip
      obtain rfl : k = m := by omega
      obtain ⟨a0, c0, rfl, o0⟩ := L0.out.end
      obtain ⟨a1, c1, rfl, o1⟩ := L1.out.end
      have lx : xs.length = k := by have := L0.out.1; rw [fvals_length, Nat.mul_one] at this; exact this
      have ly : ys.length = k := by have := L1.out.1; rw [fvals_length, Nat.mul_one] at this; exact this
      have O0 := Lib.hid o0; have O1 := Lib.hid o1; clear o0 o1
      have HLX := Lib.hid lx; have HLY := Lib.hid ly; clear lx ly
      obtain ⟨Oc, Of⟩ := O.open; obtain ⟨Rc, Rf⟩ := R.open
      go_wp2
      refine bodyPost_ret (v := .agg #[.int .i64 wd, .int .i64 hi, .bool wb, .slice a0 k c0, .slice a1 k c1]) (by simp [results, Try.results11, go_sem, Rc]) rfl ⟨wd, hi, wb, a0, a1, c0, c1, xs, ys, by rw [HLX.out, HLY.out], valid_drawn w3 w6 h3 h6 (by rw [HLX.out, HM.out]) (by rw [HLY.out, HM.out]) GX.out GY.out, w6, h6, (OwnV.lower (own_low (own_low (own_low (own_low (own_low O0.out (p := ⟨w.heap.size, 0, none⟩) (by dsimp only; omega) _) (p := ⟨w.heap.size, 1, none⟩) (by dsimp only; omega) _) (p := ⟨w.heap.size, 2, none⟩) (by dsimp only; omega) _) (p := ⟨w.heap.size, 3, none⟩) (by dsimp only; omega) _) (p := ⟨w.heap.size, 4, none⟩) (by dsimp only; omega) _) (by omega)), (OwnV.lower (own_low (own_low (own_low (own_low (own_low O1.out (p := ⟨w.heap.size, 0, none⟩) (by dsimp only; omega) _) (p := ⟨w.heap.size, 1, none⟩) (by dsimp only; omega) _) (p := ⟨w.heap.size, 2, none⟩) (by dsimp only; omega) _) (p := ⟨w.heap.size, 3, none⟩) (by dsimp only; omega) _) (p := ⟨w.heap.size, 4, none⟩) (by dsimp only; omega) _) (by omega)), good_lt GX.out, good_lt GY.out, (grown_cell (grown_cell (grown_cell (grown_cell (grown_cell HG.out (p := ⟨w.heap.size, 0, none⟩) (Nat.le_refl _) _) (p := ⟨w.heap.size, 1, none⟩) (Nat.le_refl _) _) (p := ⟨w.heap.size, 2, none⟩) (Nat.le_refl _) _) (p := ⟨w.heap.size, 3, none⟩) (Nat.le_refl _) _) (p := ⟨w.heap.size, 4, none⟩) (Nat.le_refl _) _)⟩

end Go.Proofs.Ytagjlfnlbfgfaaa

end

section

namespace Go.Proofs.Ytagjlfnlbfgfaaa
open Go Ieee Go.RowKit
set_option linter.unusedVariables false
set_option linter.unusedSimpArgs false

theorem specSrcFrom (a : Option Addr) (n c : Nat) (w : World) : Calls Try.prog 10 #[.slice a n c] w fun e w' => ∃ g, e = .returned (.pointer (some ⟨g, 0, none⟩)) ∧ SrcAt w' g a n c 0 ∧ w.heap.size ≤ g ∧ Below w.heap.size w w' := by
  have B := Blk.new w #[.slice a n c, .int .i64 0, .int .u64 0] 55
  have HB : Hid (Below w.heap.size w (w.alloc (.cells #[.slice a n c, .int .i64 0, .int .u64 0] 55))) := Lib.hid (below_new _ _)
  go_enter Try.func10, Try.ntmps10
  go_wp2
  go_ret
  exact ⟨_, rfl, ⟨0, B, by decide, by decide⟩, Nat.le_refl _, HB.out⟩

set_option maxHeartbeats 4000000 in
set_option maxRecDepth 100000 in
theorem specR8Sheet (a : Option Addr) (n c : Nat) (bs : List Int) (w : World) (hb : RowV w a (bvals bs)) (hq : ∀ z ∈ bs, 0 ≤ z ∧ z < 256) (hn : bs.length = n) (n48 : n ≤ 48) : Calls Try.prog 5 #[.slice a n c] w fun e w' => ∃ (wd hi : Int) (wb : Bool) (a0 a1 : Option Addr) (c0 c1 : Nat) (xs ys : List Nat), e = .returned (.agg #[.int .i64 wd, .int .i64 hi, .bool wb, .slice a0 xs.length c0, .slice a1 ys.length c1]) ∧ validB wd hi xs ys = true ∧ wd ≤ 6 ∧ hi ≤ 6 ∧ RowV w' a0 (fvals xs) ∧ RowV w' a1 (fvals ys) ∧ (∀ x ∈ xs, x < 2 ^ 32) ∧ (∀ x ∈ ys, x < 2 ^ 32) ∧ Below w.heap.size w w' := by
  have HQ := Lib.hid hq; have HN := Lib.hid hn; clear hq hn
  have R := Blk.new w #[.int .i64 0, .int .i64 0, .bool false, .slice none 0 0, .slice none 0 0] 26
  have HB : Hid (Below w.heap.size w (w.alloc (.cells #[.int .i64 0, .int .i64 0, .bool false, .slice none 0 0, .slice none 0 0] 26))) := Lib.hid ((Below.refl w.heap.size w).alloc (by simp <;> omega) _)
  go_enter Try.func5, Try.ntmps5
  go_wp2_with fail
  generalize (w.alloc (.cells #[.int .i64 0, .int .i64 0, .bool false, .slice none 0 0, .slice none 0 0] 26)) = u1 at *
  have rl := R.lt
  refine (specSrcFrom _ _ _ _).mono ?_
  rintro e u2 ⟨g, rfl, X, hg, q⟩
  have sq := q.size
  have szb : w.heap.size < u2.heap.size := by omega
  replace R := R.later q
  replace HB := Lib.hid (HB.out.trans (q.mono HB.out.size))
  have gg : ∀ x, bvals bs ≠ [] → a = some x → x.block ≠ g := fun x hv hx => by
    have h1 : 0 < (bvals bs).length := by cases h : bvals bs with
      | nil => exact absurd h hv
      | cons _ _ => simp
    obtain ⟨b0, o0, e0, hc⟩ := hb 0 _ (List.getElem?_eq_getElem h1)
    rw [hx] at e0; injection e0 with e0; subst e0
    have := World.block_lt_of_cell? w _ hc; dsimp only at this ⊢; omega
  have hgw : w.heap.size < g := by omega
  have hb2 := hb.later HB.out
  clear q
  go_wp2_with fail
  refine (specDrawOk g a n c bs _ X hb2 HQ.out HN.out n48 gg).mono ?_
  rintro e u3 ⟨wd, hi, wb, a0, a1, c0, c1, xs, ys, rfl, hv, w6, h6, o0, o1, qa, qb, hgr⟩
  have szu := HB.out.size
  replace HB := Lib.hid (HB.out.grown hgr szu (fun i hi => by injection hi with hi; omega))
  replace R := R.grown hgr (fun e => by injection e with e; omega)
  have HV := Lib.hid hv; have O0 := Lib.hid o0; have O1 := Lib.hid o1; have QA := Lib.hid qa; have QB := Lib.hid qb; clear hv o0 o1 qa qb hgr X gg hb hb2 hg hgw szu
  obtain ⟨Rc, Rf⟩ := R.open
  go_wp2
  refine bodyPost_ret (v := .agg #[.int .i64 wd, .int .i64 hi, .bool wb, .slice a0 xs.length c0, .slice a1 ys.length c1]) (by simp [results, Try.results5, go_sem, Rc]) rfl ⟨wd, hi, wb, a0, a1, c0, c1, xs, ys, rfl, HV.out, w6, h6, ((own_low (own_low (own_low (own_low (own_low O0.out (p := ⟨w.heap.size, 0, none⟩) (by dsimp only; omega) _) (p := ⟨w.heap.size, 1, none⟩) (by dsimp only; omega) _) (p := ⟨w.heap.size, 2, none⟩) (by dsimp only; omega) _) (p := ⟨w.heap.size, 3, none⟩) (by dsimp only; omega) _) (p := ⟨w.heap.size, 4, none⟩) (by dsimp only; omega) _)).row, ((own_low (own_low (own_low (own_low (own_low O1.out (p := ⟨w.heap.size, 0, none⟩) (by dsimp only; omega) _) (p := ⟨w.heap.size, 1, none⟩) (by dsimp only; omega) _) (p := ⟨w.heap.size, 2, none⟩) (by dsimp only; omega) _) (p := ⟨w.heap.size, 3, none⟩) (by dsimp only; omega) _) (p := ⟨w.heap.size, 4, none⟩) (by dsimp only; omega) _)).row, QA.out, QB.out, (((((HB.out.setCell (p := ⟨w.heap.size, 0, none⟩) (by first | omega | (simp <;> omega)) _).setCell (p := ⟨w.heap.size, 1, none⟩) (by first | omega | (simp <;> omega)) _).setCell (p := ⟨w.heap.size, 2, none⟩) (by first | omega | (simp <;> omega)) _).setCell (p := ⟨w.heap.size, 3, none⟩) (by first | omega | (simp <;> omega)) _).setCell (p := ⟨w.heap.size, 4, none⟩) (by first | omega | (simp <;> omega)) _)⟩

theorem r8Long_no (a b : Option Addr) (n m ca cb : Nat) (w : World) (h1 : n ≤ 48) (h2 : m ≤ 48) : Calls Try.prog 4 #[.slice a n ca, .slice b m cb] w fun e w' => e = .returned (.bool false) ∧ w = w' := by
  have d1 : (n : Int) ≤ 9223372036854775807 := by omega
  have d2 : (m : Int) ≤ 9223372036854775807 := by omega
  go_enter Try.func4, Try.ntmps4
  go_wp2
  go_ret
  exact ⟨congrArg (fun b => Ending.returned (Value.bool b)) (show (decide (48 < (n : Int)) || decide (48 < (m : Int))) = false from by rw [decide_eq_false (p := 48 < (n : Int)) (by omega), decide_eq_false (p := 48 < (m : Int)) (by omega)]; rfl), rfl⟩

theorem r8Long_yes (a b : Option Addr) (n m ca cb : Nat) (w : World) (hn : n ≤ maxLen) (hm : m ≤ maxLen) (h : ¬ (n ≤ 48 ∧ m ≤ 48)) : Calls Try.prog 4 #[.slice a n ca, .slice b m cb] w fun e w' => e = .returned (.bool true) ∧ w = w' := by
  unfold maxLen at hn hm
  go_enter Try.func4, Try.ntmps4
  go_wp2
  all_goals go_ret
  all_goals (first | exact ⟨rfl, rfl⟩ | (exact ⟨congrArg (fun b => Ending.returned (Value.bool b)) (show (decide (48 < (n : Int)) || decide (48 < (m : Int))) = true from by (rw [decide_eq_true (p := 48 < (m : Int)) (by omega), Bool.or_true])), rfl⟩) | (exact ⟨congrArg (fun b => Ending.returned (Value.bool b)) (show (decide (48 < (n : Int)) || decide (48 < (m : Int))) = true from by (rw [decide_eq_true (p := 48 < (n : Int)) (by omega)]; rfl)), rfl⟩))

set_option maxHeartbeats 2000000 in
set_option maxRecDepth 100000 in
theorem r8At_any (a : Option Addr) (n c : Nat) (bs : List Int) (k : Nat) (m : Int) (w : World) (hb : RowV w a (bvals bs)) (hq : ∀ z ∈ bs, 0 ≤ z ∧ z < 256) (hn : bs.length = n) (n48 : n ≤ 48) (k1 : k ≤ 100) (m1 : 1 ≤ m) (m2 : m ≤ 100) : Calls Try.prog 6 #[.slice a n c, .int .i64 k, .int .i64 m] w fun e w' => ∃ r : Int, e = .returned (.int .i64 r) ∧ 0 ≤ r ∧ r < m ∧ w = w' := by
  have hn48 : (n : Int) ≤ 48 := by omega
  have k0 : (0 : Int) ≤ (k : Int) := Int.natCast_nonneg k
  by_cases h1 : m ≤ 1
  · skip
    go_enter Try.func6, Try.ntmps6
    go_wp2
    go_ret
    exact ⟨0, rfl, by omega, by omega, rfl⟩
  by_cases h2 : k < n
  rotate_left
  · skip
    have d2 : (n : Int) ≤ (k : Int) := by omega
    have d3 : n ≤ k := by omega
    go_enter Try.func6, Try.ntmps6
    go_wp2
    go_ret
    exact ⟨0, rfl, by omega, by omega, rfl⟩
  obtain ⟨b0, o0, rfl, c0⟩ := row_byte hb (show k < bs.length by omega)
  have hz := hq bs[k] (List.getElem_mem _)
  generalize bs[k] = z at *
  obtain ⟨z0, z1⟩ := hz
  have d2 : (k : Int) < (n : Int) := by omega
  have d3 : ¬ (n : Int) ≤ (k : Int) := by omega
  have d4 : ¬ n ≤ k := by omega
  have hne : (m == 0) = false := by simp; omega
  have hz9 : ¬ m = 0 := by omega
  have hr : z.tmod m = z % m := Int.tmod_eq_emod_of_nonneg z0
  have h3 : 0 ≤ z % m := Int.emod_nonneg _ (by omega)
  have h4 : z % m < m := Int.emod_lt_of_pos _ (by omega)
  have hw : IntKind.i64.wrap (z % m) = z % m := IntWalk.i64_in _ (by omega)
  clear hb hq hn
  go_enter Try.func6, Try.ntmps6
  go_wp2
  go_ret
  exact ⟨z % m, (by first | rfl | simp only [hr, hw]), h3, h4, rfl⟩
end Go.Proofs.Ytagjlfnlbfgfaaa

end
