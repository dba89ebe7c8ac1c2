/- Several texts in one: facts on floats, lists, memory and the functions that the theorems beside this text use. Conditions: none beyond those of each theorem. -/
import Derived.Test.YtedfbaeajofmnaaBu2

set_option linter.unusedVariables false

section

namespace Go.Proofs.Ytedfbaeajofmnaa
open Go Ieee Go.RowKit
set_option linter.unusedVariables false

theorem szSheet_yes (wd : Int) (hi : Int) (wr : Bool) (a0 a1 : Option Addr) (c0 c1 : Nat) (n0 n1 : Nat) (l : Int) (w : World) (h : (n0 : Int) + (n1 : Int) ≤ l) (hl : l ≤ 1048576) :
    Calls Try.prog 12 #[.agg #[.int .i64 wd, .int .i64 hi, .bool wr, .slice a0 n0 c0, .slice a1 n1 c1], .int .i64 l] w fun e w' => e = .returned (.int .i64 (l - ((n0 : Int) + (n1 : Int)))) ∧ Below w.heap.size w w' := by
  go_enter Try.func12, Try.ntmps12
  have h0 : (n0 : Int) ≤ l := by omega
  have d0 : ¬ (l - (n0 : Int) < 0) := by omega
  have k0 : l ≤ 1048576 := by omega
  have h1 : (n1 : Int) ≤ (l - (n0 : Int)) := by omega
  have d1 : ¬ ((l - (n0 : Int)) - (n1 : Int) < 0) := by omega
  have k1 : (l - (n0 : Int)) ≤ 1048576 := by omega
  clear h hl
  go_wp2_with fail
  refine (szF_yes _ _ _ _ _ h0 k0).mono ?_
  rintro e w' ⟨rfl, rfl⟩
  go_wp2_with fail
  refine (szF_yes _ _ _ _ _ h1 k1).mono ?_
  rintro e w' ⟨rfl, rfl⟩
  go_wp2
  go_ret
  exact ⟨ret_i64 (by omega), (Below.refl _ _).alloc (Nat.le_refl _) _⟩

theorem szSheet_no (wd : Int) (hi : Int) (wr : Bool) (a0 a1 : Option Addr) (c0 c1 : Nat) (n0 n1 : Nat) (l : Int) (w : World) (h : l < (n0 : Int) + (n1 : Int)) (hl : 0 ≤ l) (hl2 : l ≤ 1048576) (hm0 : n0 ≤ maxLen) (hm1 : n1 ≤ maxLen) :
    Calls Try.prog 12 #[.agg #[.int .i64 wd, .int .i64 hi, .bool wr, .slice a0 n0 c0, .slice a1 n1 c1], .int .i64 l] w fun e w' => e = .returned (.int .i64 (-1)) ∧ Below w.heap.size w w' := by
  by_cases g0 : (n0 : Int) ≤ l
  · skip
    have d0 : ¬ (l - (n0 : Int) < 0) := by omega
    have k0 : l ≤ 1048576 := by omega
    have z1 : (l - (n0 : Int)) < (n1 : Int) := by omega
    have y1 : 0 ≤ (l - (n0 : Int)) := by omega
    have k1 : (l - (n0 : Int)) ≤ 1048576 := by omega
    clear h hl hl2
    go_enter Try.func12, Try.ntmps12
    go_wp2_with fail
    refine (szF_yes _ _ _ _ _ g0 k0).mono ?_
    rintro e w' ⟨rfl, rfl⟩
    go_wp2_with fail
    refine (szF_no _ _ _ _ _ z1 y1 k1 hm1).mono ?_
    rintro e w' ⟨rfl, rfl⟩
    go_wp2
    go_ret
    exact ⟨rfl, (Below.refl _ _).alloc (Nat.le_refl _) _⟩
  · skip
    have z0 : l < (n0 : Int) := by omega
    have y0 : 0 ≤ l := by omega
    have k0 : l ≤ 1048576 := by omega
    clear h hl hl2
    go_enter Try.func12, Try.ntmps12
    go_wp2_with fail
    refine (szF_no _ _ _ _ _ z0 y0 k0 hm0).mono ?_
    rintro e w' ⟨rfl, rfl⟩
    go_wp2
    go_ret
    exact ⟨rfl, (Below.refl _ _).alloc (Nat.le_refl _) _⟩

/-- a copy: it lies in blocks of its own, one behind another -/
structure CopiedSheet (w w' : World) (x0 x1 : List Nat) (g0 g1 : Nat) : Prop where
  o0 : OwnV w' w.heap.size (some ⟨g0, 0, none⟩) (fvals x0)
  o1 : OwnV w' w.heap.size (some ⟨g1, 0, none⟩) (fvals x1)
  l0 : g0 < g1
  below : Below w.heap.size w w'

set_option maxHeartbeats 2000000 in
theorem toSheet_any (wd : Int) (hi : Int) (wr : Bool) (a0 a1 : Option Addr) (c0 c1 : Nat) (x0 x1 : List Nat) (w : World) (h0 : RowV w a0 (fvals x0)) (h1 : RowV w a1 (fvals x1)) (n0 : x0.length ≤ 1048576) (n1 : x1.length ≤ 1048576) :
    Calls Try.prog 14 #[.agg #[.int .i64 wd, .int .i64 hi, .bool wr, .slice a0 x0.length c0, .slice a1 x1.length c1]] w fun e w' => ∃ g0 g1, e = .returned (.agg #[.int .i64 wd, .int .i64 hi, .bool wr, .slice (some ⟨g0, 0, none⟩) x0.length x0.length, .slice (some ⟨g1, 0, none⟩) x1.length x1.length]) ∧ CopiedSheet w w' x0 x1 g0 g1 := by
  go_enter Try.func14, Try.ntmps14
  go_wp2_with fail
  have B : Below w.heap.size w (((w.alloc (.cells #[.int .i64 wd, .int .i64 hi, .bool wr, .slice a0 x0.length c0, .slice a1 x1.length c1] 24)).alloc (.cells #[.int .i64 0, .int .i64 0, .bool false, .slice none 0 0, .slice none 0 0] 29)).alloc (.cells #[.int .i64 wd, .int .i64 hi, .bool wr, .slice none 0 0, .slice none 0 0] 29)) := (((Below.refl w.heap.size w).alloc (Nat.le_refl _) _).alloc (by simp) _).alloc (by simp <;> omega) _
  have X := ((Blk.new w #[.int .i64 wd, .int .i64 hi, .bool wr, .slice a0 x0.length c0, .slice a1 x1.length c1] 24).alloc (.cells #[.int .i64 0, .int .i64 0, .bool false, .slice none 0 0, .slice none 0 0] 29)).alloc (.cells #[.int .i64 wd, .int .i64 hi, .bool wr, .slice none 0 0, .slice none 0 0] 29)
  have Y := (Blk.new1 w (.cells #[.int .i64 wd, .int .i64 hi, .bool wr, .slice a0 x0.length c0, .slice a1 x1.length c1] 24) #[.int .i64 0, .int .i64 0, .bool false, .slice none 0 0, .slice none 0 0] 29).alloc (.cells #[.int .i64 wd, .int .i64 hi, .bool wr, .slice none 0 0, .slice none 0 0] 29)
  have W := Blk.new2 w (.cells #[.int .i64 wd, .int .i64 hi, .bool wr, .slice a0 x0.length c0, .slice a1 x1.length c1] 24) (.cells #[.int .i64 0, .int .i64 0, .bool false, .slice none 0 0, .slice none 0 0] 29) #[.int .i64 wd, .int .i64 hi, .bool wr, .slice none 0 0, .slice none 0 0] 29
  have Q : w.heap.size + 1 + 1 < (((w.alloc (.cells #[.int .i64 wd, .int .i64 hi, .bool wr, .slice a0 x0.length c0, .slice a1 x1.length c1] 24)).alloc (.cells #[.int .i64 0, .int .i64 0, .bool false, .slice none 0 0, .slice none 0 0] 29)).alloc (.cells #[.int .i64 wd, .int .i64 hi, .bool wr, .slice none 0 0, .slice none 0 0] 29)).heap.size := by simp
  generalize ((w.alloc (.cells #[.int .i64 wd, .int .i64 hi, .bool wr, .slice a0 x0.length c0, .slice a1 x1.length c1] 24)).alloc (.cells #[.int .i64 0, .int .i64 0, .bool false, .slice none 0 0, .slice none 0 0] 29)).alloc (.cells #[.int .i64 wd, .int .i64 hi, .bool wr, .slice none 0 0, .slice none 0 0] 29) = u0 at *
  refine (copyF _ _ _ _ (h0.later B) n0).mono ?_
  rintro e v0 ⟨rfl, o0, b0, q0⟩
  replace X := X.later b0
  replace Y := Y.later b0
  replace W := W.later b0
  replace B := B.trans (b0.mono B.size)
  have l0 : w.heap.size + 1 + 1 < u0.heap.size := Q
  replace Q : u0.heap.size < v0.heap.size := q0
  clear b0 q0
  obtain ⟨xc, xf⟩ := X.open
  obtain ⟨yc, yf⟩ := Y.open
  obtain ⟨wc, wf⟩ := W.open
  have O0 := Lib.hid o0; clear o0
  have HB := Lib.hid B; clear B
  go_wp2_with fail
  replace X := X.setOther (p := ⟨w.heap.size + 1 + 1, 3, none⟩) (by simp <;> omega) (.slice (some ⟨u0.heap.size, 0, none⟩) x0.length x0.length)
  replace Y := Y.setOther (p := ⟨w.heap.size + 1 + 1, 3, none⟩) (by simp <;> omega) (.slice (some ⟨u0.heap.size, 0, none⟩) x0.length x0.length)
  replace W : Blk (v0.setCell ⟨w.heap.size + 1 + 1, 3, none⟩ (.slice (some ⟨u0.heap.size, 0, none⟩) x0.length x0.length)) _ #[.int .i64 wd, .int .i64 hi, .bool wr, .slice (some ⟨u0.heap.size, 0, none⟩) x0.length x0.length, .slice none 0 0] _ := W.set 3 (.slice (some ⟨u0.heap.size, 0, none⟩) x0.length x0.length)
  have o0 := O0.out.set (p := ⟨w.heap.size + 1 + 1, 3, none⟩) (ne_block (by simp <;> omega)) (.slice (some ⟨u0.heap.size, 0, none⟩) x0.length x0.length); clear O0
  have B := HB.out.setCell (p := ⟨w.heap.size + 1 + 1, 3, none⟩) (by simp <;> omega) (.slice (some ⟨u0.heap.size, 0, none⟩) x0.length x0.length); clear HB
  have r0 : u0.heap.size < (v0.setCell ⟨w.heap.size + 1 + 1, 3, none⟩ (.slice (some ⟨u0.heap.size, 0, none⟩) x0.length x0.length)).heap.size := by simp; omega
  replace Q : w.heap.size + 1 + 1 < (v0.setCell ⟨w.heap.size + 1 + 1, 3, none⟩ (.slice (some ⟨u0.heap.size, 0, none⟩) x0.length x0.length)).heap.size := by simp; omega
  clear xc xf yc yf wc wf
  generalize v0.setCell ⟨w.heap.size + 1 + 1, 3, none⟩ (.slice (some ⟨u0.heap.size, 0, none⟩) x0.length x0.length) = u1 at *
  refine (copyF _ _ _ _ (h1.later B) n1).mono ?_
  rintro e v1 ⟨rfl, o1, b1, q1⟩
  replace X := X.later b1
  replace Y := Y.later b1
  replace W := W.later b1
  replace o0 := o0.later b1
  replace B := B.trans (b1.mono B.size)
  have l1 : w.heap.size + 1 + 1 < u1.heap.size := Q
  replace Q : u1.heap.size < v1.heap.size := q1
  have m01 : u0.heap.size < u1.heap.size := r0
  clear b1 q1
  obtain ⟨xc, xf⟩ := X.open
  obtain ⟨yc, yf⟩ := Y.open
  obtain ⟨wc, wf⟩ := W.open
  have O0 := Lib.hid o0; clear o0
  have O1 := Lib.hid o1; clear o1
  have HB := Lib.hid B; clear B
  go_wp2_with fail
  refine bodyPost_ret (v := .agg #[.int .i64 wd, .int .i64 hi, .bool wr, .slice (some ⟨u0.heap.size, 0, none⟩) x0.length x0.length, .slice (some ⟨u1.heap.size, 0, none⟩) x1.length x1.length]) (by simp [results, Try.results14, go_sem, yc]) rfl ⟨_, _, rfl, ⟨(((((((O0.out.lower (C := w.heap.size) (by omega)).set (p := ⟨w.heap.size + 1 + 1, 4, none⟩) (ne_block (by simp <;> omega)) _).set (p := ⟨w.heap.size + 1, 0, none⟩) (ne_block (by simp <;> omega)) _).set (p := ⟨w.heap.size + 1, 1, none⟩) (ne_block (by simp <;> omega)) _).set (p := ⟨w.heap.size + 1, 2, none⟩) (ne_block (by simp <;> omega)) _).set (p := ⟨w.heap.size + 1, 3, none⟩) (ne_block (by simp <;> omega)) _).set (p := ⟨w.heap.size + 1, 4, none⟩) (ne_block (by simp <;> omega)) _), (((((((O1.out.lower (C := w.heap.size) (by omega)).set (p := ⟨w.heap.size + 1 + 1, 4, none⟩) (ne_block (by simp <;> omega)) _).set (p := ⟨w.heap.size + 1, 0, none⟩) (ne_block (by simp <;> omega)) _).set (p := ⟨w.heap.size + 1, 1, none⟩) (ne_block (by simp <;> omega)) _).set (p := ⟨w.heap.size + 1, 2, none⟩) (ne_block (by simp <;> omega)) _).set (p := ⟨w.heap.size + 1, 3, none⟩) (ne_block (by simp <;> omega)) _).set (p := ⟨w.heap.size + 1, 4, none⟩) (ne_block (by simp <;> omega)) _), (by omega), ((((((HB.out.setCell (p := ⟨w.heap.size + 1 + 1, 4, none⟩) (by simp <;> omega) _).setCell (p := ⟨w.heap.size + 1, 0, none⟩) (by simp <;> omega) _).setCell (p := ⟨w.heap.size + 1, 1, none⟩) (by simp <;> omega) _).setCell (p := ⟨w.heap.size + 1, 2, none⟩) (by simp <;> omega) _).setCell (p := ⟨w.heap.size + 1, 3, none⟩) (by simp <;> omega) _).setCell (p := ⟨w.heap.size + 1, 4, none⟩) (by simp <;> omega) _)⟩⟩

set_option maxHeartbeats 2000000 in
theorem eqSheet_any (wd : Int) (hi : Int) (wr : Bool) (a0 a1 : Option Addr) (c0 c1 : Nat) (x0 x1 : List Nat) (b0 b1 : Option Addr) (d0 d1 : Nat) (y0 y1 : List Nat) (w : World) (h0 : RowV w a0 (fvals x0)) (h1 : RowV w a1 (fvals x1)) (k0 : RowV w b0 (fvals y0)) (k1 : RowV w b1 (fvals y1)) (s0 : SameF x0 y0) (s1 : SameF x1 y1) (n0 : x0.length ≤ maxLen) (n1 : x1.length ≤ maxLen) :
    Calls Try.prog 17 #[.agg #[.int .i64 wd, .int .i64 hi, .bool wr, .slice a0 x0.length c0, .slice a1 x1.length c1], .agg #[.int .i64 wd, .int .i64 hi, .bool wr, .slice b0 y0.length d0, .slice b1 y1.length d1]] w fun e w' => e = .returned (.bool true) ∧ Below w.heap.size w w' := by
  have S0 := Lib.hid s0; clear s0
  have S1 := Lib.hid s1; clear s1
  have B : Below w.heap.size w ((w.alloc (.cells #[.int .i64 wd, .int .i64 hi, .bool wr, .slice a0 x0.length c0, .slice a1 x1.length c1] 29)).alloc (.cells #[.int .i64 wd, .int .i64 hi, .bool wr, .slice b0 y0.length d0, .slice b1 y1.length d1] 29)) := ((Below.refl w.heap.size w).alloc (Nat.le_refl _) _).alloc (by simp) _
  have HB := Lib.hid B; clear B
  go_enter Try.func17, Try.ntmps17
  go_wp2_with fail
  refine (eqF32s _ _ _ _ _ _ _ (h0.later HB.out) (k0.later HB.out) S0.out n0).mono ?_
  rintro e w' ⟨rfl, q0, rfl⟩
  go_wp2_with fail
  refine (eqF32s _ _ _ _ _ _ _ (RowV.drawn (h1.later HB.out) _) (RowV.drawn (k1.later HB.out) _) S1.out n1).mono ?_
  rintro e w' ⟨rfl, q1, rfl⟩
  go_wp2
  go_ret
  exact ⟨rfl, below_drewN HB.out _⟩

/-- what marking leaves: marks in all of its lists, and all other blocks as they were -/
structure MarkedSheet (B : Nat) (a0 a1 : Option Addr) (k : Int) (n0 n1 : Nat) (w w' : World) : Prop where
  o0 : OwnV w' B a0 (fvals (marks (k) n0))
  o1 : OwnV w' B a1 (fvals (marks (k + n0) n1))
  keep : ∀ j, j < w.heap.size → some j ≠ blockOf a0 → some j ≠ blockOf a1 → w'.heap[j]? = w.heap[j]?
  below : Below B w w'

set_option maxHeartbeats 2000000 in
theorem markSheet_any (B : Nat) (wd : Int) (hi : Int) (wr : Bool) (a0 a1 : Option Addr) (c0 c1 : Nat) (v0 v1 : List Value) (k : Int) (w : World) (hB : B ≤ w.heap.size) (h0 : OwnV w B a0 v0) (h1 : OwnV w B a1 v1) (p01 : Apart a0 a1) (hk : 0 ≤ k) (hn : k + v0.length + v1.length ≤ 16777216) :
    Calls Try.prog 23 #[.agg #[.int .i64 wd, .int .i64 hi, .bool wr, .slice a0 v0.length c0, .slice a1 v1.length c1], .int .i64 k] w fun e w' => e = .returned (.int .i64 (k + v0.length + v1.length)) ∧ MarkedSheet B a0 a1 k v0.length v1.length w w' := by
  have B0 : Below w.heap.size w (w.alloc (.cells #[.int .i64 wd, .int .i64 hi, .bool wr, .slice a0 v0.length c0, .slice a1 v1.length c1] 29)) := (Below.refl w.heap.size w).alloc (Nat.le_refl _) _
  have X := Blk.new w #[.int .i64 wd, .int .i64 hi, .bool wr, .slice a0 v0.length c0, .slice a1 v1.length c1] 29
  have N : w.heap.size < (w.alloc (.cells #[.int .i64 wd, .int .i64 hi, .bool wr, .slice a0 v0.length c0, .slice a1 v1.length c1] 29)).heap.size := by simp
  have g0 := h0.later B0
  have g1 := h1.later B0
  have e0 : some w.heap.size ≠ blockOf a0 := by
    intro e
    rcases h0 with ⟨rfl, _⟩ | ⟨z, cs, t, rfl, _, hc, _⟩
    · cases e
    · have := hc.lt
      unfold blockOf at e
      simp only [Option.map_some, Option.some.injEq] at e
      omega
  have e1 : some w.heap.size ≠ blockOf a1 := by
    intro e
    rcases h1 with ⟨rfl, _⟩ | ⟨z, cs, t, rfl, _, hc, _⟩
    · cases e
    · have := hc.lt
      unfold blockOf at e
      simp only [Option.map_some, Option.some.injEq] at e
      omega
  go_enter Try.func23, Try.ntmps23
  go_wp2_with fail
  generalize w.alloc (.cells #[.int .i64 wd, .int .i64 hi, .bool wr, .slice a0 v0.length c0, .slice a1 v1.length c1] 29) = u0 at *
  have HB := Lib.hid B0; clear B0
  have K : ∀ j, j < w.heap.size → u0.heap[j]? = w.heap[j]? := HB.out.block
  have HK := Lib.hid K; clear K
  have BB : Below B w u0 := HB.out.mono hB
  clear HB
  have H0 := Lib.hid g0; clear g0
  have E0 := Lib.hid e0; clear e0
  have H1 := Lib.hid g1; clear g1
  have E1 := Lib.hid e1; clear e1
  have HBB := Lib.hid BB; clear BB
  refine (markF B _ _ _ _ _ H0.out (by omega) (by omega)).mono ?_
  rintro e u1 ⟨rfl, o0, r0⟩
  replace X := X.grown r0 E0.out
  replace H1 := Lib.hid (H1.out.grown r0 (Apart.block (Apart.symm p01)))
  replace H0 := Lib.hid o0; clear o0
  replace HBB := Lib.hid (HBB.out.grown r0 (Nat.le_trans hB HBB.out.size) (OwnV.bound H0.out))
  have R0 := Lib.hid r0; clear r0
  replace N : w.heap.size < u1.heap.size := Nat.lt_of_lt_of_le N R0.out.size
  obtain ⟨xc, xf⟩ := X.open
  go_wp2_with fail
  refine (markF B _ _ _ _ _ H1.out (by omega) (by omega)).mono ?_
  rintro e u2 ⟨rfl, o1, r1⟩
  replace X := X.grown r1 E1.out
  replace H0 := Lib.hid (H0.out.grown r1 (Apart.block p01))
  replace H1 := Lib.hid o1; clear o1
  replace HBB := Lib.hid (HBB.out.grown r1 (Nat.le_trans hB HBB.out.size) (OwnV.bound H1.out))
  have R1 := Lib.hid r1; clear r1
  replace N : w.heap.size < u2.heap.size := Nat.lt_of_lt_of_le N R1.out.size
  go_wp2
  go_ret
  refine ⟨rfl, H0.out, H1.out, fun j hj f0 f1 => ?_, HBB.out⟩
  have s1 := R1.out.size
  have s0 := R0.out.size
  have t0 : w.heap.size ≤ u0.heap.size := by
    rcases Nat.lt_or_ge u0.heap.size w.heap.size with h | h
    · have := HK.out u0.heap.size h
      rw [Array.getElem?_eq_none (Nat.le_refl _), Array.getElem?_eq_getElem h] at this
      cases this
    · exact h
  rw [R1.out.block j (by omega) f1, R0.out.block j (by omega) f0, HK.out j hj]

end Go.Proofs.Ytedfbaeajofmnaa

end

section

namespace Go.Proofs.Ytedfbaeajofmnaa
open Go Ieee Go.RowKit
set_option linter.unusedVariables false

theorem szField_yes  (a0 a1 a2 : Option Addr) (c0 c1 c2 : Nat) (n0 n1 n2 : Nat) (l : Int) (w : World) (h : (n0 : Int) + (n1 : Int) + (n2 : Int) ≤ l) (hl : l ≤ 1048576) :
    Calls Try.prog 18 #[.agg #[.slice a0 n0 c0, .slice a1 n1 c1, .slice a2 n2 c2], .int .i64 l] w fun e w' => e = .returned (.int .i64 (l - ((n0 : Int) + (n1 : Int) + (n2 : Int)))) ∧ Below w.heap.size w w' := by
  go_enter Try.func18, Try.ntmps18
  have h0 : (n0 : Int) ≤ l := by omega
  have d0 : ¬ (l - (n0 : Int) < 0) := by omega
  have k0 : l ≤ 1048576 := by omega
  have h1 : (n1 : Int) ≤ (l - (n0 : Int)) := by omega
  have d1 : ¬ ((l - (n0 : Int)) - (n1 : Int) < 0) := by omega
  have k1 : (l - (n0 : Int)) ≤ 1048576 := by omega
  have h2 : (n2 : Int) ≤ ((l - (n0 : Int)) - (n1 : Int)) := by omega
  have d2 : ¬ (((l - (n0 : Int)) - (n1 : Int)) - (n2 : Int) < 0) := by omega
  have k2 : ((l - (n0 : Int)) - (n1 : Int)) ≤ 1048576 := by omega
  clear h hl
  go_wp2_with fail
  refine (szF_yes _ _ _ _ _ h0 k0).mono ?_
  rintro e w' ⟨rfl, rfl⟩
  go_wp2_with fail
  refine (szF_yes _ _ _ _ _ h1 k1).mono ?_
  rintro e w' ⟨rfl, rfl⟩
  go_wp2_with fail
  refine (szF_yes _ _ _ _ _ h2 k2).mono ?_
  rintro e w' ⟨rfl, rfl⟩
  go_wp2
  go_ret
  exact ⟨ret_i64 (by omega), (Below.refl _ _).alloc (Nat.le_refl _) _⟩

theorem szField_no  (a0 a1 a2 : Option Addr) (c0 c1 c2 : Nat) (n0 n1 n2 : Nat) (l : Int) (w : World) (h : l < (n0 : Int) + (n1 : Int) + (n2 : Int)) (hl : 0 ≤ l) (hl2 : l ≤ 1048576) (hm0 : n0 ≤ maxLen) (hm1 : n1 ≤ maxLen) (hm2 : n2 ≤ maxLen) :
    Calls Try.prog 18 #[.agg #[.slice a0 n0 c0, .slice a1 n1 c1, .slice a2 n2 c2], .int .i64 l] w fun e w' => e = .returned (.int .i64 (-1)) ∧ Below w.heap.size w w' := by
  by_cases g0 : (n0 : Int) ≤ l
  · skip
    by_cases g1 : (n1 : Int) ≤ (l - (n0 : Int))
    · skip
      have d0 : ¬ (l - (n0 : Int) < 0) := by omega
      have k0 : l ≤ 1048576 := by omega
      have d1 : ¬ ((l - (n0 : Int)) - (n1 : Int) < 0) := by omega
      have k1 : (l - (n0 : Int)) ≤ 1048576 := by omega
      have z2 : ((l - (n0 : Int)) - (n1 : Int)) < (n2 : Int) := by omega
      have y2 : 0 ≤ ((l - (n0 : Int)) - (n1 : Int)) := by omega
      have k2 : ((l - (n0 : Int)) - (n1 : Int)) ≤ 1048576 := by omega
      clear h hl hl2
      go_enter Try.func18, Try.ntmps18
      go_wp2_with fail
      refine (szF_yes _ _ _ _ _ g0 k0).mono ?_
      rintro e w' ⟨rfl, rfl⟩
      go_wp2_with fail
      refine (szF_yes _ _ _ _ _ g1 k1).mono ?_
      rintro e w' ⟨rfl, rfl⟩
      go_wp2_with fail
      refine (szF_no _ _ _ _ _ z2 y2 k2 hm2).mono ?_
      rintro e w' ⟨rfl, rfl⟩
      go_wp2
      go_ret
      exact ⟨rfl, (Below.refl _ _).alloc (Nat.le_refl _) _⟩
    · skip
      have d0 : ¬ (l - (n0 : Int) < 0) := by omega
      have k0 : l ≤ 1048576 := by omega
      have z1 : (l - (n0 : Int)) < (n1 : Int) := by omega
      have y1 : 0 ≤ (l - (n0 : Int)) := by omega
      have k1 : (l - (n0 : Int)) ≤ 1048576 := by omega
      clear h hl hl2
      go_enter Try.func18, Try.ntmps18
      go_wp2_with fail
      refine (szF_yes _ _ _ _ _ g0 k0).mono ?_
      rintro e w' ⟨rfl, rfl⟩
      go_wp2_with fail
      refine (szF_no _ _ _ _ _ z1 y1 k1 hm1).mono ?_
      rintro e w' ⟨rfl, rfl⟩
      go_wp2
      go_ret
      exact ⟨rfl, (Below.refl _ _).alloc (Nat.le_refl _) _⟩
  · skip
    have z0 : l < (n0 : Int) := by omega
    have y0 : 0 ≤ l := by omega
    have k0 : l ≤ 1048576 := by omega
    clear h hl hl2
    go_enter Try.func18, Try.ntmps18
    go_wp2_with fail
    refine (szF_no _ _ _ _ _ z0 y0 k0 hm0).mono ?_
    rintro e w' ⟨rfl, rfl⟩
    go_wp2
    go_ret
    exact ⟨rfl, (Below.refl _ _).alloc (Nat.le_refl _) _⟩

/-- a copy: it lies in blocks of its own, one behind another -/
structure CopiedField (w w' : World) (x0 x1 x2 : List Nat) (g0 g1 g2 : Nat) : Prop where
  o0 : OwnV w' w.heap.size (some ⟨g0, 0, none⟩) (fvals x0)
  o1 : OwnV w' w.heap.size (some ⟨g1, 0, none⟩) (fvals x1)
  o2 : OwnV w' w.heap.size (some ⟨g2, 0, none⟩) (fvals x2)
  l0 : g0 < g1
  l1 : g1 < g2
  below : Below w.heap.size w w'

set_option maxHeartbeats 2000000 in
theorem toField_any  (a0 a1 a2 : Option Addr) (c0 c1 c2 : Nat) (x0 x1 x2 : List Nat) (w : World) (h0 : RowV w a0 (fvals x0)) (h1 : RowV w a1 (fvals x1)) (h2 : RowV w a2 (fvals x2)) (n0 : x0.length ≤ 1048576) (n1 : x1.length ≤ 1048576) (n2 : x2.length ≤ 1048576) :
    Calls Try.prog 20 #[.agg #[.slice a0 x0.length c0, .slice a1 x1.length c1, .slice a2 x2.length c2]] w fun e w' => ∃ g0 g1 g2, e = .returned (.agg #[.slice (some ⟨g0, 0, none⟩) x0.length x0.length, .slice (some ⟨g1, 0, none⟩) x1.length x1.length, .slice (some ⟨g2, 0, none⟩) x2.length x2.length]) ∧ CopiedField w w' x0 x1 x2 g0 g1 g2 := by
  go_enter Try.func20, Try.ntmps20
  go_wp2_with fail
  have B : Below w.heap.size w (((w.alloc (.cells #[.slice a0 x0.length c0, .slice a1 x1.length c1, .slice a2 x2.length c2] 36)).alloc (.cells #[.slice none 0 0, .slice none 0 0, .slice none 0 0] 38)).alloc (.cells #[.slice none 0 0, .slice none 0 0, .slice none 0 0] 38)) := (((Below.refl w.heap.size w).alloc (Nat.le_refl _) _).alloc (by simp) _).alloc (by simp <;> omega) _
  have X := ((Blk.new w #[.slice a0 x0.length c0, .slice a1 x1.length c1, .slice a2 x2.length c2] 36).alloc (.cells #[.slice none 0 0, .slice none 0 0, .slice none 0 0] 38)).alloc (.cells #[.slice none 0 0, .slice none 0 0, .slice none 0 0] 38)
  have Y := (Blk.new1 w (.cells #[.slice a0 x0.length c0, .slice a1 x1.length c1, .slice a2 x2.length c2] 36) #[.slice none 0 0, .slice none 0 0, .slice none 0 0] 38).alloc (.cells #[.slice none 0 0, .slice none 0 0, .slice none 0 0] 38)
  have W := Blk.new2 w (.cells #[.slice a0 x0.length c0, .slice a1 x1.length c1, .slice a2 x2.length c2] 36) (.cells #[.slice none 0 0, .slice none 0 0, .slice none 0 0] 38) #[.slice none 0 0, .slice none 0 0, .slice none 0 0] 38
  have Q : w.heap.size + 1 + 1 < (((w.alloc (.cells #[.slice a0 x0.length c0, .slice a1 x1.length c1, .slice a2 x2.length c2] 36)).alloc (.cells #[.slice none 0 0, .slice none 0 0, .slice none 0 0] 38)).alloc (.cells #[.slice none 0 0, .slice none 0 0, .slice none 0 0] 38)).heap.size := by simp
  generalize ((w.alloc (.cells #[.slice a0 x0.length c0, .slice a1 x1.length c1, .slice a2 x2.length c2] 36)).alloc (.cells #[.slice none 0 0, .slice none 0 0, .slice none 0 0] 38)).alloc (.cells #[.slice none 0 0, .slice none 0 0, .slice none 0 0] 38) = u0 at *
  refine (copyF _ _ _ _ (h0.later B) n0).mono ?_
  rintro e v0 ⟨rfl, o0, b0, q0⟩
  replace X := X.later b0
  replace Y := Y.later b0
  replace W := W.later b0
  replace B := B.trans (b0.mono B.size)
  have l0 : w.heap.size + 1 + 1 < u0.heap.size := Q
  replace Q : u0.heap.size < v0.heap.size := q0
  clear b0 q0
  obtain ⟨xc, xf⟩ := X.open
  obtain ⟨yc, yf⟩ := Y.open
  obtain ⟨wc, wf⟩ := W.open
  have O0 := Lib.hid o0; clear o0
  have HB := Lib.hid B; clear B
  go_wp2_with fail
  replace X := X.setOther (p := ⟨w.heap.size + 1 + 1, 0, none⟩) (by simp <;> omega) (.slice (some ⟨u0.heap.size, 0, none⟩) x0.length x0.length)
  replace Y := Y.setOther (p := ⟨w.heap.size + 1 + 1, 0, none⟩) (by simp <;> omega) (.slice (some ⟨u0.heap.size, 0, none⟩) x0.length x0.length)
  replace W : Blk (v0.setCell ⟨w.heap.size + 1 + 1, 0, none⟩ (.slice (some ⟨u0.heap.size, 0, none⟩) x0.length x0.length)) _ #[.slice (some ⟨u0.heap.size, 0, none⟩) x0.length x0.length, .slice none 0 0, .slice none 0 0] _ := W.set 0 (.slice (some ⟨u0.heap.size, 0, none⟩) x0.length x0.length)
  have o0 := O0.out.set (p := ⟨w.heap.size + 1 + 1, 0, none⟩) (ne_block (by simp <;> omega)) (.slice (some ⟨u0.heap.size, 0, none⟩) x0.length x0.length); clear O0
  have B := HB.out.setCell (p := ⟨w.heap.size + 1 + 1, 0, none⟩) (by simp <;> omega) (.slice (some ⟨u0.heap.size, 0, none⟩) x0.length x0.length); clear HB
  have r0 : u0.heap.size < (v0.setCell ⟨w.heap.size + 1 + 1, 0, none⟩ (.slice (some ⟨u0.heap.size, 0, none⟩) x0.length x0.length)).heap.size := by simp; omega
  replace Q : w.heap.size + 1 + 1 < (v0.setCell ⟨w.heap.size + 1 + 1, 0, none⟩ (.slice (some ⟨u0.heap.size, 0, none⟩) x0.length x0.length)).heap.size := by simp; omega
  clear xc xf yc yf wc wf
  generalize v0.setCell ⟨w.heap.size + 1 + 1, 0, none⟩ (.slice (some ⟨u0.heap.size, 0, none⟩) x0.length x0.length) = u1 at *
  refine (copyF _ _ _ _ (h1.later B) n1).mono ?_
  rintro e v1 ⟨rfl, o1, b1, q1⟩
  replace X := X.later b1
  replace Y := Y.later b1
  replace W := W.later b1
  replace o0 := o0.later b1
  replace B := B.trans (b1.mono B.size)
  have l1 : w.heap.size + 1 + 1 < u1.heap.size := Q
  replace Q : u1.heap.size < v1.heap.size := q1
  have m01 : u0.heap.size < u1.heap.size := r0
  clear b1 q1
  obtain ⟨xc, xf⟩ := X.open
  obtain ⟨yc, yf⟩ := Y.open
  obtain ⟨wc, wf⟩ := W.open
  have O0 := Lib.hid o0; clear o0
  have O1 := Lib.hid o1; clear o1
  have HB := Lib.hid B; clear B
  go_wp2_with fail
  replace X := X.setOther (p := ⟨w.heap.size + 1 + 1, 1, none⟩) (by simp <;> omega) (.slice (some ⟨u1.heap.size, 0, none⟩) x1.length x1.length)
  replace Y := Y.setOther (p := ⟨w.heap.size + 1 + 1, 1, none⟩) (by simp <;> omega) (.slice (some ⟨u1.heap.size, 0, none⟩) x1.length x1.length)
  replace W : Blk (v1.setCell ⟨w.heap.size + 1 + 1, 1, none⟩ (.slice (some ⟨u1.heap.size, 0, none⟩) x1.length x1.length)) _ #[.slice (some ⟨u0.heap.size, 0, none⟩) x0.length x0.length, .slice (some ⟨u1.heap.size, 0, none⟩) x1.length x1.length, .slice none 0 0] _ := W.set 1 (.slice (some ⟨u1.heap.size, 0, none⟩) x1.length x1.length)
  have o0 := O0.out.set (p := ⟨w.heap.size + 1 + 1, 1, none⟩) (ne_block (by simp <;> omega)) (.slice (some ⟨u1.heap.size, 0, none⟩) x1.length x1.length); clear O0
  have o1 := O1.out.set (p := ⟨w.heap.size + 1 + 1, 1, none⟩) (ne_block (by simp <;> omega)) (.slice (some ⟨u1.heap.size, 0, none⟩) x1.length x1.length); clear O1
  have B := HB.out.setCell (p := ⟨w.heap.size + 1 + 1, 1, none⟩) (by simp <;> omega) (.slice (some ⟨u1.heap.size, 0, none⟩) x1.length x1.length); clear HB
  have r0 : u0.heap.size < (v1.setCell ⟨w.heap.size + 1 + 1, 1, none⟩ (.slice (some ⟨u1.heap.size, 0, none⟩) x1.length x1.length)).heap.size := by simp; omega
  have r1 : u1.heap.size < (v1.setCell ⟨w.heap.size + 1 + 1, 1, none⟩ (.slice (some ⟨u1.heap.size, 0, none⟩) x1.length x1.length)).heap.size := by simp; omega
  replace Q : w.heap.size + 1 + 1 < (v1.setCell ⟨w.heap.size + 1 + 1, 1, none⟩ (.slice (some ⟨u1.heap.size, 0, none⟩) x1.length x1.length)).heap.size := by simp; omega
  clear xc xf yc yf wc wf
  generalize v1.setCell ⟨w.heap.size + 1 + 1, 1, none⟩ (.slice (some ⟨u1.heap.size, 0, none⟩) x1.length x1.length) = u2 at *
  refine (copyF _ _ _ _ (h2.later B) n2).mono ?_
  rintro e v2 ⟨rfl, o2, b2, q2⟩
  replace X := X.later b2
  replace Y := Y.later b2
  replace W := W.later b2
  replace o0 := o0.later b2
  replace o1 := o1.later b2
  replace B := B.trans (b2.mono B.size)
  have l2 : w.heap.size + 1 + 1 < u2.heap.size := Q
  replace Q : u2.heap.size < v2.heap.size := q2
  have m02 : u0.heap.size < u2.heap.size := r0
  have m12 : u1.heap.size < u2.heap.size := r1
  clear b2 q2
  obtain ⟨xc, xf⟩ := X.open
  obtain ⟨yc, yf⟩ := Y.open
  obtain ⟨wc, wf⟩ := W.open
  have O0 := Lib.hid o0; clear o0
  have O1 := Lib.hid o1; clear o1
  have O2 := Lib.hid o2; clear o2
  have HB := Lib.hid B; clear B
  go_wp2_with fail
  refine bodyPost_ret (v := .agg #[.slice (some ⟨u0.heap.size, 0, none⟩) x0.length x0.length, .slice (some ⟨u1.heap.size, 0, none⟩) x1.length x1.length, .slice (some ⟨u2.heap.size, 0, none⟩) x2.length x2.length]) (by simp [results, Try.results20, go_sem, yc]) rfl ⟨_, _, _, rfl, ⟨(((((O0.out.lower (C := w.heap.size) (by omega)).set (p := ⟨w.heap.size + 1 + 1, 2, none⟩) (ne_block (by simp <;> omega)) _).set (p := ⟨w.heap.size + 1, 0, none⟩) (ne_block (by simp <;> omega)) _).set (p := ⟨w.heap.size + 1, 1, none⟩) (ne_block (by simp <;> omega)) _).set (p := ⟨w.heap.size + 1, 2, none⟩) (ne_block (by simp <;> omega)) _), (((((O1.out.lower (C := w.heap.size) (by omega)).set (p := ⟨w.heap.size + 1 + 1, 2, none⟩) (ne_block (by simp <;> omega)) _).set (p := ⟨w.heap.size + 1, 0, none⟩) (ne_block (by simp <;> omega)) _).set (p := ⟨w.heap.size + 1, 1, none⟩) (ne_block (by simp <;> omega)) _).set (p := ⟨w.heap.size + 1, 2, none⟩) (ne_block (by simp <;> omega)) _), (((((O2.out.lower (C := w.heap.size) (by omega)).set (p := ⟨w.heap.size + 1 + 1, 2, none⟩) (ne_block (by simp <;> omega)) _).set (p := ⟨w.heap.size + 1, 0, none⟩) (ne_block (by simp <;> omega)) _).set (p := ⟨w.heap.size + 1, 1, none⟩) (ne_block (by simp <;> omega)) _).set (p := ⟨w.heap.size + 1, 2, none⟩) (ne_block (by simp <;> omega)) _), (by omega), (by omega), ((((HB.out.setCell (p := ⟨w.heap.size + 1 + 1, 2, none⟩) (by simp <;> omega) _).setCell (p := ⟨w.heap.size + 1, 0, none⟩) (by simp <;> omega) _).setCell (p := ⟨w.heap.size + 1, 1, none⟩) (by simp <;> omega) _).setCell (p := ⟨w.heap.size + 1, 2, none⟩) (by simp <;> omega) _)⟩⟩

set_option maxHeartbeats 2000000 in
theorem eqField_any  (a0 a1 a2 : Option Addr) (c0 c1 c2 : Nat) (x0 x1 x2 : List Nat) (b0 b1 b2 : Option Addr) (d0 d1 d2 : Nat) (y0 y1 y2 : List Nat) (w : World) (h0 : RowV w a0 (fvals x0)) (h1 : RowV w a1 (fvals x1)) (h2 : RowV w a2 (fvals x2)) (k0 : RowV w b0 (fvals y0)) (k1 : RowV w b1 (fvals y1)) (k2 : RowV w b2 (fvals y2)) (s0 : SameF x0 y0) (s1 : SameF x1 y1) (s2 : SameF x2 y2) (n0 : x0.length ≤ maxLen) (n1 : x1.length ≤ maxLen) (n2 : x2.length ≤ maxLen) :
    Calls Try.prog 22 #[.agg #[.slice a0 x0.length c0, .slice a1 x1.length c1, .slice a2 x2.length c2], .agg #[.slice b0 y0.length d0, .slice b1 y1.length d1, .slice b2 y2.length d2]] w fun e w' => e = .returned (.bool true) ∧ Below w.heap.size w w' := by
  have S0 := Lib.hid s0; clear s0
  have S1 := Lib.hid s1; clear s1
  have S2 := Lib.hid s2; clear s2
  have B : Below w.heap.size w ((w.alloc (.cells #[.slice a0 x0.length c0, .slice a1 x1.length c1, .slice a2 x2.length c2] 38)).alloc (.cells #[.slice b0 y0.length d0, .slice b1 y1.length d1, .slice b2 y2.length d2] 38)) := ((Below.refl w.heap.size w).alloc (Nat.le_refl _) _).alloc (by simp) _
  have HB := Lib.hid B; clear B
  go_enter Try.func22, Try.ntmps22
  go_wp2_with fail
  refine (eqF32s _ _ _ _ _ _ _ (h0.later HB.out) (k0.later HB.out) S0.out n0).mono ?_
  rintro e w' ⟨rfl, q0, rfl⟩
  go_wp2_with fail
  refine (eqF32s _ _ _ _ _ _ _ (RowV.drawn (h1.later HB.out) _) (RowV.drawn (k1.later HB.out) _) S1.out n1).mono ?_
  rintro e w' ⟨rfl, q1, rfl⟩
  go_wp2_with fail
  refine (eqF32s _ _ _ _ _ _ _ (RowV.drawn (h2.later HB.out) _) (RowV.drawn (k2.later HB.out) _) S2.out n2).mono ?_
  rintro e w' ⟨rfl, q2, rfl⟩
  go_wp2
  go_ret
  exact ⟨rfl, below_drewN HB.out _⟩

/-- what marking leaves: marks in all of its lists, and all other blocks as they were -/
structure MarkedField (B : Nat) (a0 a1 a2 : Option Addr) (k : Int) (n0 n1 n2 : Nat) (w w' : World) : Prop where
  o0 : OwnV w' B a0 (fvals (marks (k) n0))
  o1 : OwnV w' B a1 (fvals (marks (k + n0) n1))
  o2 : OwnV w' B a2 (fvals (marks (k + n0 + n1) n2))
  keep : ∀ j, j < w.heap.size → some j ≠ blockOf a0 → some j ≠ blockOf a1 → some j ≠ blockOf a2 → w'.heap[j]? = w.heap[j]?
  below : Below B w w'

set_option maxHeartbeats 2000000 in
theorem markField_any (B : Nat)  (a0 a1 a2 : Option Addr) (c0 c1 c2 : Nat) (v0 v1 v2 : List Value) (k : Int) (w : World) (hB : B ≤ w.heap.size) (h0 : OwnV w B a0 v0) (h1 : OwnV w B a1 v1) (h2 : OwnV w B a2 v2) (p01 : Apart a0 a1) (p02 : Apart a0 a2) (p12 : Apart a1 a2) (hk : 0 ≤ k) (hn : k + v0.length + v1.length + v2.length ≤ 16777216) :
    Calls Try.prog 24 #[.agg #[.slice a0 v0.length c0, .slice a1 v1.length c1, .slice a2 v2.length c2], .int .i64 k] w fun e w' => e = .returned (.int .i64 (k + v0.length + v1.length + v2.length)) ∧ MarkedField B a0 a1 a2 k v0.length v1.length v2.length w w' := by
  have B0 : Below w.heap.size w (w.alloc (.cells #[.slice a0 v0.length c0, .slice a1 v1.length c1, .slice a2 v2.length c2] 38)) := (Below.refl w.heap.size w).alloc (Nat.le_refl _) _
  have X := Blk.new w #[.slice a0 v0.length c0, .slice a1 v1.length c1, .slice a2 v2.length c2] 38
  have N : w.heap.size < (w.alloc (.cells #[.slice a0 v0.length c0, .slice a1 v1.length c1, .slice a2 v2.length c2] 38)).heap.size := by simp
  have g0 := h0.later B0
  have g1 := h1.later B0
  have g2 := h2.later B0
  have e0 : some w.heap.size ≠ blockOf a0 := by
    intro e
    rcases h0 with ⟨rfl, _⟩ | ⟨z, cs, t, rfl, _, hc, _⟩
    · cases e
    · have := hc.lt
      unfold blockOf at e
      simp only [Option.map_some, Option.some.injEq] at e
      omega
  have e1 : some w.heap.size ≠ blockOf a1 := by
    intro e
    rcases h1 with ⟨rfl, _⟩ | ⟨z, cs, t, rfl, _, hc, _⟩
    · cases e
    · have := hc.lt
      unfold blockOf at e
      simp only [Option.map_some, Option.some.injEq] at e
      omega
  have e2 : some w.heap.size ≠ blockOf a2 := by
    intro e
    rcases h2 with ⟨rfl, _⟩ | ⟨z, cs, t, rfl, _, hc, _⟩
    · cases e
    · have := hc.lt
      unfold blockOf at e
      simp only [Option.map_some, Option.some.injEq] at e
      omega
  go_enter Try.func24, Try.ntmps24
  go_wp2_with fail
  generalize w.alloc (.cells #[.slice a0 v0.length c0, .slice a1 v1.length c1, .slice a2 v2.length c2] 38) = u0 at *
  have HB := Lib.hid B0; clear B0
  have K : ∀ j, j < w.heap.size → u0.heap[j]? = w.heap[j]? := HB.out.block
  have HK := Lib.hid K; clear K
  have BB : Below B w u0 := HB.out.mono hB
  clear HB
  have H0 := Lib.hid g0; clear g0
  have E0 := Lib.hid e0; clear e0
  have H1 := Lib.hid g1; clear g1
  have E1 := Lib.hid e1; clear e1
  have H2 := Lib.hid g2; clear g2
  have E2 := Lib.hid e2; clear e2
  have HBB := Lib.hid BB; clear BB
  refine (markF B _ _ _ _ _ H0.out (by omega) (by omega)).mono ?_
  rintro e u1 ⟨rfl, o0, r0⟩
  replace X := X.grown r0 E0.out
  replace H1 := Lib.hid (H1.out.grown r0 (Apart.block (Apart.symm p01)))
  replace H2 := Lib.hid (H2.out.grown r0 (Apart.block (Apart.symm p02)))
  replace H0 := Lib.hid o0; clear o0
  replace HBB := Lib.hid (HBB.out.grown r0 (Nat.le_trans hB HBB.out.size) (OwnV.bound H0.out))
  have R0 := Lib.hid r0; clear r0
  replace N : w.heap.size < u1.heap.size := Nat.lt_of_lt_of_le N R0.out.size
  obtain ⟨xc, xf⟩ := X.open
  go_wp2_with fail
  refine (markF B _ _ _ _ _ H1.out (by omega) (by omega)).mono ?_
  rintro e u2 ⟨rfl, o1, r1⟩
  replace X := X.grown r1 E1.out
  replace H0 := Lib.hid (H0.out.grown r1 (Apart.block p01))
  replace H2 := Lib.hid (H2.out.grown r1 (Apart.block (Apart.symm p12)))
  replace H1 := Lib.hid o1; clear o1
  replace HBB := Lib.hid (HBB.out.grown r1 (Nat.le_trans hB HBB.out.size) (OwnV.bound H1.out))
  have R1 := Lib.hid r1; clear r1
  replace N : w.heap.size < u2.heap.size := Nat.lt_of_lt_of_le N R1.out.size
  obtain ⟨xc, xf⟩ := X.open
  go_wp2_with fail
  refine (markF B _ _ _ _ _ H2.out (by omega) (by omega)).mono ?_
  rintro e u3 ⟨rfl, o2, r2⟩
  replace X := X.grown r2 E2.out
  replace H0 := Lib.hid (H0.out.grown r2 (Apart.block p02))
  replace H1 := Lib.hid (H1.out.grown r2 (Apart.block p12))
  replace H2 := Lib.hid o2; clear o2
  replace HBB := Lib.hid (HBB.out.grown r2 (Nat.le_trans hB HBB.out.size) (OwnV.bound H2.out))
  have R2 := Lib.hid r2; clear r2
  replace N : w.heap.size < u3.heap.size := Nat.lt_of_lt_of_le N R2.out.size
  go_wp2
  go_ret
  refine ⟨rfl, H0.out, H1.out, H2.out, fun j hj f0 f1 f2 => ?_, HBB.out⟩
  have s2 := R2.out.size
  have s1 := R1.out.size
  have s0 := R0.out.size
  have t0 : w.heap.size ≤ u0.heap.size := by
    rcases Nat.lt_or_ge u0.heap.size w.heap.size with h | h
    · have := HK.out u0.heap.size h
      rw [Array.getElem?_eq_none (Nat.le_refl _), Array.getElem?_eq_getElem h] at this
      cases this
    · exact h
  rw [R2.out.block j (by omega) f2, R1.out.block j (by omega) f1, R0.out.block j (by omega) f0, HK.out j hj]

set_option maxHeartbeats 2000000 in
theorem heldField_any  (a0 a1 a2 : Option Addr) (c0 c1 c2 : Nat) (n0 n1 n2 : Nat) (k : Int) (w : World) (h0 : RowV w a0 (fvals (marks (k) n0))) (h1 : RowV w a1 (fvals (marks (k + n0) n1))) (h2 : RowV w a2 (fvals (marks (k + n0 + n1) n2))) (hk : 0 ≤ k) (hn : k + n0 + n1 + n2 ≤ 16777216) :
    Calls Try.prog 25 #[.agg #[.slice a0 n0 c0, .slice a1 n1 c1, .slice a2 n2 c2], .int .i64 k] w fun e w' => e = .returned (.int .i64 (k + n0 + n1 + n2)) ∧ Below w.heap.size w w' := by
  have B : Below w.heap.size w (w.alloc (.cells #[.slice a0 n0 c0, .slice a1 n1 c1, .slice a2 n2 c2] 38)) := (Below.refl w.heap.size w).alloc (Nat.le_refl _) _
  have HB := Lib.hid B; clear B
  go_enter Try.func25, Try.ntmps25
  go_wp2_with fail
  refine (heldF _ _ _ _ _ (h0.later HB.out) (by omega) (by omega)).mono ?_
  rintro e w' ⟨rfl, rfl⟩
  go_wp2_with fail
  refine (heldF _ _ _ _ _ (h1.later HB.out) (by omega) (by omega)).mono ?_
  rintro e w' ⟨rfl, rfl⟩
  go_wp2_with fail
  refine (heldF _ _ _ _ _ (h2.later HB.out) (by omega) (by omega)).mono ?_
  rintro e w' ⟨rfl, rfl⟩
  go_wp2
  go_ret
  exact ⟨rfl, HB.out⟩
end Go.Proofs.Ytedfbaeajofmnaa

end
