/- Several texts in one: facts on floats, lists, memory and the functions that the theorems beside this text use. Conditions: none beyond those of each theorem. -/
import Derived.Test.YtkcododhfliobaaBu11
import Derived.Test.YtkcododhfliobaaBu9
import Derived.Test.YtkcododhfliobaaBu2
import Derived.Deep.RegionHeld3

set_option linter.unusedVariables false

section

namespace Go.Proofs.Ytkcododhfliobaa
open Go Ieee Go.RowKit
set_option linter.unusedVariables false

structure Src where
  x : Int
  y : Int
  hd : Bool
  kd : Int
  wt : Int
  lg : Int
  tu : Nat
  sz : Nat
  sd : Int

def Src.cells (s : Src) : List Value := [.int .i64 s.x, .int .i64 s.y, .bool s.hd, .int .i64 s.kd, .int .i64 s.wt, .int .i64 s.lg, .float .f32 s.tu, .float .f32 s.sz, .int .i64 s.sd]
def Src.ok (s : Src) : Prop := s.tu < 2 ^ 32 ∧ s.sz < 2 ^ 32
instance : Inhabited Src := ⟨⟨0, 0, false, 0, 0, 0, 0, 0, 0⟩⟩

theorem flat_get {α : Type} (f : α → List Value) (c : Nat) (hc : ∀ x, (f x).length = c) {xs : List α} {k j : Nat} (hk : k < xs.length) (hj : j < c) : (xs.flatMap f)[k * c + j]? = (f xs[k])[j]? := by
  induction xs generalizing k with
  | nil => simp at hk
  | cons p xs ih =>
    rw [List.flatMap_cons]
    cases k with
    | zero =>
      rw [List.getElem?_append_left (by rw [hc]; omega)]
      simp
    | succ k =>
      have hk' : k < xs.length := by simpa using hk
      have e : (k + 1) * c + j = c + (k * c + j) := by rw [Nat.add_mul]; omega
      rw [e, List.getElem?_append_right (by rw [hc]; omega), hc, Nat.add_sub_cancel_left]
      simpa using ih hk'

theorem flat_length {α : Type} (f : α → List Value) (c : Nat) (hc : ∀ x, (f x).length = c) (xs : List α) : (xs.flatMap f).length = xs.length * c := by
  induction xs with
  | nil => simp
  | cons p xs ih => rw [List.flatMap_cons, List.length_append, hc, ih, List.length_cons, Nat.add_mul]; omega

def svals (ss : List Src) : List Value := ss.flatMap Src.cells
theorem svals_length (ss : List Src) : (svals ss).length = ss.length * 9 := flat_length _ 9 (fun _ => rfl) ss
theorem svals_get {ss : List Src} {k : Nat} (h : k < ss.length) (j : Nat) (hj : j < 9) : (svals ss)[k * 9 + j]? = ss[k].cells[j]? := flat_get _ 9 (fun _ => rfl) h hj

theorem Try.infoSource : (Try.prog.info? 95).map (fun i => (i.zero, i.size, i.bytes)) = some (some (.agg #[.int .i64 0, .int .i64 0, .bool false, .int .i64 0, .int .i64 0, .int .i64 0, .float .f32 0, .float .f32 0, .int .i64 0]), 9, 64) := by kernel_rfl

set_option maxHeartbeats 4000000 in
set_option maxRecDepth 100000 in
theorem toSource_any (x y : Int) (hd : Bool) (kd wt lg : Int) (tu sz : Nat) (sd : Int) (w : World) : Calls Try.prog 72 #[.agg #[.int .i64 x, .int .i64 y, .bool hd, .int .i64 kd, .int .i64 wt, .int .i64 lg, .float .f32 tu, .float .f32 sz, .int .i64 sd]] w fun e w' => e = .returned (.agg #[.int .i64 x, .int .i64 y, .bool hd, .int .i64 kd, .int .i64 wt, .int .i64 lg, .float .f32 tu, .float .f32 sz, .int .i64 sd]) ∧ Below w.heap.size w w' := by
  have X := Blk.new w #[.int .i64 x, .int .i64 y, .bool hd, .int .i64 kd, .int .i64 wt, .int .i64 lg, .float .f32 tu, .float .f32 sz, .int .i64 sd] 98
  have R := Blk.new1 w (.cells #[.int .i64 x, .int .i64 y, .bool hd, .int .i64 kd, .int .i64 wt, .int .i64 lg, .float .f32 tu, .float .f32 sz, .int .i64 sd] 98) #[.int .i64 0, .int .i64 0, .bool false, .int .i64 0, .int .i64 0, .int .i64 0, .float .f32 0, .float .f32 0, .int .i64 0] 95
  replace X := X.alloc (.cells #[.int .i64 0, .int .i64 0, .bool false, .int .i64 0, .int .i64 0, .int .i64 0, .float .f32 0, .float .f32 0, .int .i64 0] 95)
  have Y := Blk.new2 w (.cells #[.int .i64 x, .int .i64 y, .bool hd, .int .i64 kd, .int .i64 wt, .int .i64 lg, .float .f32 tu, .float .f32 sz, .int .i64 sd] 98) (.cells #[.int .i64 0, .int .i64 0, .bool false, .int .i64 0, .int .i64 0, .int .i64 0, .float .f32 0, .float .f32 0, .int .i64 0] 95) #[.int .i64 x, .int .i64 y, .bool hd, .int .i64 0, .int .i64 0, .int .i64 0, .float .f32 0, .float .f32 0, .int .i64 0] 95
  replace X := X.alloc (.cells #[.int .i64 x, .int .i64 y, .bool hd, .int .i64 0, .int .i64 0, .int .i64 0, .float .f32 0, .float .f32 0, .int .i64 0] 95)
  replace R := R.alloc (.cells #[.int .i64 x, .int .i64 y, .bool hd, .int .i64 0, .int .i64 0, .int .i64 0, .float .f32 0, .float .f32 0, .int .i64 0] 95)
  have HB : Hid (Below w.heap.size w (((w.alloc (.cells #[.int .i64 x, .int .i64 y, .bool hd, .int .i64 kd, .int .i64 wt, .int .i64 lg, .float .f32 tu, .float .f32 sz, .int .i64 sd] 98)).alloc (.cells #[.int .i64 0, .int .i64 0, .bool false, .int .i64 0, .int .i64 0, .int .i64 0, .float .f32 0, .float .f32 0, .int .i64 0] 95)).alloc (.cells #[.int .i64 x, .int .i64 y, .bool hd, .int .i64 0, .int .i64 0, .int .i64 0, .float .f32 0, .float .f32 0, .int .i64 0] 95))) := Lib.hid ((((Below.refl w.heap.size w).alloc (by simp <;> omega) _).alloc (by simp <;> omega) _).alloc (by simp <;> omega) _)
  go_enter Try.func72, Try.ntmps72
  go_wp2_with fail
  generalize (((w.alloc (.cells #[.int .i64 x, .int .i64 y, .bool hd, .int .i64 kd, .int .i64 wt, .int .i64 lg, .float .f32 tu, .float .f32 sz, .int .i64 sd] 98)).alloc (.cells #[.int .i64 0, .int .i64 0, .bool false, .int .i64 0, .int .i64 0, .int .i64 0, .float .f32 0, .float .f32 0, .int .i64 0] 95)).alloc (.cells #[.int .i64 x, .int .i64 y, .bool hd, .int .i64 0, .int .i64 0, .int .i64 0, .float .f32 0, .float .f32 0, .int .i64 0] 95)) = u1 at *
  refine (toWave_any _ _ _ _ _ _ _).mono ?_
  rintro r u2 ⟨rfl, q⟩
  replace X := X.later q
  replace R := R.later q
  replace Y := Y.later q
  replace HB := Lib.hid (HB.out.trans (q.mono HB.out.size))
  clear q
  obtain ⟨Xc, Xf⟩ := X.open
  obtain ⟨Rc, Rf⟩ := R.open
  obtain ⟨Yc, Yf⟩ := Y.open
  go_wp2
  refine bodyPost_ret (v := .agg #[.int .i64 x, .int .i64 y, .bool hd, .int .i64 kd, .int .i64 wt, .int .i64 lg, .float .f32 tu, .float .f32 sz, .int .i64 sd]) (by simp [results, Try.results72, go_sem, Rc]) rfl ⟨rfl, ?_⟩
  exact (((((((((((((((HB.out.setCell (p := ⟨w.heap.size + 1 + 1, 3, none⟩) (by simp <;> omega) _).setCell (p := ⟨w.heap.size + 1 + 1, 4, none⟩) (by simp <;> omega) _).setCell (p := ⟨w.heap.size + 1 + 1, 5, none⟩) (by simp <;> omega) _).setCell (p := ⟨w.heap.size + 1 + 1, 6, none⟩) (by simp <;> omega) _).setCell (p := ⟨w.heap.size + 1 + 1, 7, none⟩) (by simp <;> omega) _).setCell (p := ⟨w.heap.size + 1 + 1, 8, none⟩) (by simp <;> omega) _).setCell (p := ⟨w.heap.size + 1, 0, none⟩) (by simp <;> omega) _).setCell (p := ⟨w.heap.size + 1, 1, none⟩) (by simp <;> omega) _).setCell (p := ⟨w.heap.size + 1, 2, none⟩) (by simp <;> omega) _).setCell (p := ⟨w.heap.size + 1, 3, none⟩) (by simp <;> omega) _).setCell (p := ⟨w.heap.size + 1, 4, none⟩) (by simp <;> omega) _).setCell (p := ⟨w.heap.size + 1, 5, none⟩) (by simp <;> omega) _).setCell (p := ⟨w.heap.size + 1, 6, none⟩) (by simp <;> omega) _).setCell (p := ⟨w.heap.size + 1, 7, none⟩) (by simp <;> omega) _).setCell (p := ⟨w.heap.size + 1, 8, none⟩) (by simp <;> omega) _)

set_option maxHeartbeats 4000000 in
set_option maxRecDepth 100000 in
theorem eqSource_any (x y : Int) (hd : Bool) (kd wt lg : Int) (tu sz : Nat) (sd : Int) (w : World) (b1 : tu < 2 ^ 32) (b2 : sz < 2 ^ 32) : Calls Try.prog 78 #[.agg #[.int .i64 x, .int .i64 y, .bool hd, .int .i64 kd, .int .i64 wt, .int .i64 lg, .float .f32 tu, .float .f32 sz, .int .i64 sd], .agg #[.int .i64 x, .int .i64 y, .bool hd, .int .i64 kd, .int .i64 wt, .int .i64 lg, .float .f32 tu, .float .f32 sz, .int .i64 sd]] w fun e w' => e = .returned (.bool true) ∧ Below w.heap.size w w' := by
  have X := Blk.new w #[.int .i64 x, .int .i64 y, .bool hd, .int .i64 kd, .int .i64 wt, .int .i64 lg, .float .f32 tu, .float .f32 sz, .int .i64 sd] 95
  have Y := Blk.new1 w (.cells #[.int .i64 x, .int .i64 y, .bool hd, .int .i64 kd, .int .i64 wt, .int .i64 lg, .float .f32 tu, .float .f32 sz, .int .i64 sd] 95) #[.int .i64 x, .int .i64 y, .bool hd, .int .i64 kd, .int .i64 wt, .int .i64 lg, .float .f32 tu, .float .f32 sz, .int .i64 sd] 95
  replace X := X.alloc (.cells #[.int .i64 x, .int .i64 y, .bool hd, .int .i64 kd, .int .i64 wt, .int .i64 lg, .float .f32 tu, .float .f32 sz, .int .i64 sd] 95)
  have HB : Hid (Below w.heap.size w ((w.alloc (.cells #[.int .i64 x, .int .i64 y, .bool hd, .int .i64 kd, .int .i64 wt, .int .i64 lg, .float .f32 tu, .float .f32 sz, .int .i64 sd] 95)).alloc (.cells #[.int .i64 x, .int .i64 y, .bool hd, .int .i64 kd, .int .i64 wt, .int .i64 lg, .float .f32 tu, .float .f32 sz, .int .i64 sd] 95))) := Lib.hid (((Below.refl w.heap.size w).alloc (by simp <;> omega) _).alloc (by simp <;> omega) _)
  go_enter Try.func78, Try.ntmps78
  go_wp2_with fail
  generalize ((w.alloc (.cells #[.int .i64 x, .int .i64 y, .bool hd, .int .i64 kd, .int .i64 wt, .int .i64 lg, .float .f32 tu, .float .f32 sz, .int .i64 sd] 95)).alloc (.cells #[.int .i64 x, .int .i64 y, .bool hd, .int .i64 kd, .int .i64 wt, .int .i64 lg, .float .f32 tu, .float .f32 sz, .int .i64 sd] 95)) = u1 at *
  refine (eqWave_any _ _ _ _ _ _ _ _ _ b1 b1 b2 b2 rfl rfl).mono ?_
  rintro r u2 ⟨rfl, q⟩
  replace X := X.later q
  replace Y := Y.later q
  replace HB := Lib.hid (HB.out.trans (q.mono HB.out.size))
  clear q
  go_wp2
  go_ret
  exact ⟨rfl, HB.out⟩

structure CopiedS (w w' : World) (ss : List Src) (g : Nat) : Prop where
  o0 : OwnV w' w.heap.size (some ⟨g, 0, none⟩) (svals ss)
  below : Below w.heap.size w w'
  lt : w.heap.size < w'.heap.size

theorem szSourceS_yes (a : Option Addr) (n ca : Nat) (l : Int) (w : World) (h : (n : Int) ≤ l) (hl : l ≤ 1048576) : Calls Try.prog 30 #[.slice a n ca, .int .i64 l] w fun e w' => e = .returned (.int .i64 (l - n)) ∧ Below w.heap.size w w' := by
  go_enter Try.func30, Try.ntmps30
  go_wp2
  go_ret
  exact ⟨rfl, Below.refl _ _⟩

theorem szSourceS_no (a : Option Addr) (n ca : Nat) (l : Int) (w : World) (h : l < (n : Int)) (h0 : 0 ≤ l) (hl : l ≤ 1048576) (hm : n ≤ maxLen) : Calls Try.prog 30 #[.slice a n ca, .int .i64 l] w fun e w' => e = .returned (.int .i64 (-1)) ∧ Below w.heap.size w w' := by
  unfold maxLen at hm
  go_enter Try.func30, Try.ntmps30
  go_wp2
  go_ret
  exact ⟨rfl, Below.refl _ _⟩

set_option maxHeartbeats 8000000 in
set_option maxRecDepth 100000 in
theorem toSourceS_any (a : Option Addr) (cap : Nat) (ss : List Src) (w : World) (hr : RowV w a (svals ss)) (hn : ss.length ≤ 1048576) :
    Calls Try.prog 33 #[.slice a ss.length cap] w fun e w' => ∃ g, e = .returned (.slice (some ⟨g, 0, none⟩) ss.length ss.length) ∧ CopiedS w w' ss g := by
  obtain ⟨i0, hi, hz0, hz1, hz2⟩ := info_parts Try.infoSource
  generalize hlen : ss.length = n at *
  have HL := Lib.hid hlen
  clear hlen
  have hn1 : (n : Int) ≤ 1048576 := by omega
  have hbytes : i0.bytes * n ≤ 281474976710656 := by rw [hz2]; omega
  have HI := Lib.hid hi
  have HZ0 := Lib.hid hz0
  have HZ1 := Lib.hid hz1
  clear hi hz0 hz1 hz2
  go_enter Try.func33, Try.ntmps33
  go_wp2_with (at_make; refine wpList_make_full _ rfl _ _ 54 rfl w.heap.size 95 i0 (.agg #[.int .i64 0, .int .i64 0, .bool false, .int .i64 0, .int .i64 0, .int .i64 0, .float .f32 0, .float .f32 0, .int .i64 0]) 9 Try.underlying54 HI.out HZ0.out HZ1.out .i64 .i64 _ _ n rfl rfl rfl rfl hbytes (by unfold maxLen; omega) (Nat.le_refl _) ?_; intro w1 hown hgrow)
  obtain ⟨zs, hzl, hown'⟩ : ∃ zs : List Value, zs.length = (svals ss).length ∧ OwnV w1 w.heap.size (some ⟨w.heap.size, 0, none⟩) (partL (svals ss) zs (0 * 9)) := ⟨(madeCells (Value.agg #[.int .i64 0, .int .i64 0, .bool false, .int .i64 0, .int .i64 0, .int .i64 0, .float .f32 0, .float .f32 0, .int .i64 0]).cells (n * 9)).toList, by rw [Array.length_toList, size_madeCells, svals_length, HL.out], by rw [Nat.zero_mul, partL_zero]; exact OwnV.of_owned2 hown⟩
  have hbel : Below w.heap.size w w1 := (Below.refl w.heap.size w).grown hgrow (Nat.le_refl _) (fun k hk => by cases hk)
  have hsz : w.heap.size < w1.heap.size := by
    obtain ⟨cs, t, _, hb, _⟩ := own_some hown'
    exact hb.lt
  have HZL := Lib.hid hzl; clear hzl
  clear hown hgrow
  go_wp2
  go_loopw [4] (fun i wr => ∃ k : Nat, k ≤ n ∧ i = .int .i64 k ∧ OwnV wr w.heap.size (some ⟨w.heap.size, 0, none⟩) (partL (svals ss) zs (k * 9)) ∧ Below w.heap.size w wr ∧ w.heap.size < wr.heap.size) (fun i _ => n - (intOf i).toNat)
  case atStart => exact ⟨0, Nat.zero_le _, rfl, hown', hbel, hsz⟩
  case round =>
    obtain ⟨k, hk, rfl, hown, hb, hs⟩ := hrel
    have HO := Lib.hid hown
    have HW := Lib.hid hb
    clear hown hb hown' hbel hsz
    by_cases hlt : k < n
    · have k1 : k < ss.length := by rw [HL.out]; exact hlt
      have hx : ∀ (j : Nat) (hj : j < 9), (svals ss)[k * 9 + j]? = ss[k].cells[j]? := svals_get k1
      generalize ss[k] = s at *
      obtain ⟨x, y, hd, kd, wt, lg, tu, sz, sd⟩ := s
      have HX := Lib.hid hx
      obtain ⟨b, off, rfl, d0⟩ := hr _ (.int .i64 x) (hx 0 (by decide))
      obtain ⟨b', off', e', d1⟩ := hr _ (.int .i64 y) (hx 1 (by decide))
      cases e'
      obtain ⟨b', off', e', d2⟩ := hr _ (.bool hd) (hx 2 (by decide))
      cases e'
      obtain ⟨b', off', e', d3⟩ := hr _ (.int .i64 kd) (hx 3 (by decide))
      cases e'
      obtain ⟨b', off', e', d4⟩ := hr _ (.int .i64 wt) (hx 4 (by decide))
      cases e'
      obtain ⟨b', off', e', d5⟩ := hr _ (.int .i64 lg) (hx 5 (by decide))
      cases e'
      obtain ⟨b', off', e', d6⟩ := hr _ (.float .f32 tu) (hx 6 (by decide))
      cases e'
      obtain ⟨b', off', e', d7⟩ := hr _ (.float .f32 sz) (hx 7 (by decide))
      cases e'
      obtain ⟨b', off', e', d8⟩ := hr _ (.int .i64 sd) (hx 8 (by decide))
      cases e'
      have c0 : wr.cell? ⟨b, off + k * 9, none⟩ = some (.int .i64 x) := (Below.cell HW.out (p := ⟨b, off + (k * 9 + 0), none⟩) (lt_of_cell d0)).trans d0
      have c1 : wr.cell? ⟨b, off + k * 9 + 1, none⟩ = some (.int .i64 y) := (Below.cell HW.out (p := ⟨b, off + (k * 9 + 1), none⟩) (lt_of_cell d1)).trans d1
      have c2 : wr.cell? ⟨b, off + k * 9 + 2, none⟩ = some (.bool hd) := (Below.cell HW.out (p := ⟨b, off + (k * 9 + 2), none⟩) (lt_of_cell d2)).trans d2
      have c3 : wr.cell? ⟨b, off + k * 9 + 3, none⟩ = some (.int .i64 kd) := (Below.cell HW.out (p := ⟨b, off + (k * 9 + 3), none⟩) (lt_of_cell d3)).trans d3
      have c4 : wr.cell? ⟨b, off + k * 9 + 4, none⟩ = some (.int .i64 wt) := (Below.cell HW.out (p := ⟨b, off + (k * 9 + 4), none⟩) (lt_of_cell d4)).trans d4
      have c5 : wr.cell? ⟨b, off + k * 9 + 5, none⟩ = some (.int .i64 lg) := (Below.cell HW.out (p := ⟨b, off + (k * 9 + 5), none⟩) (lt_of_cell d5)).trans d5
      have c6 : wr.cell? ⟨b, off + k * 9 + 6, none⟩ = some (.float .f32 tu) := (Below.cell HW.out (p := ⟨b, off + (k * 9 + 6), none⟩) (lt_of_cell d6)).trans d6
      have c7 : wr.cell? ⟨b, off + k * 9 + 7, none⟩ = some (.float .f32 sz) := (Below.cell HW.out (p := ⟨b, off + (k * 9 + 7), none⟩) (lt_of_cell d7)).trans d7
      have c8 : wr.cell? ⟨b, off + k * 9 + 8, none⟩ = some (.int .i64 sd) := (Below.cell HW.out (p := ⟨b, off + (k * 9 + 8), none⟩) (lt_of_cell d8)).trans d8
      clear hx d0 d1 d2 d3 d4 d5 d6 d7 d8
      go_wp2_with fail
      refine (toSource_any _ _ _ _ _ _ _ _ _ _).mono ?_
      rintro e wt9 ⟨rfl, q⟩
      replace HO := Lib.hid (HO.out.later q)
      replace HW := Lib.hid (HW.out.trans (q.mono HW.out.size))
      have hs2 : w.heap.size < wt9.heap.size := Nat.lt_of_lt_of_le hs q.size
      clear c0 c1 c2 c3 c4 c5 c6 c7 c8 q
      obtain ⟨cs, tt, _, hblk, hv⟩ := own_some HO.out
      obtain ⟨gc, gf⟩ := hblk.open
      have hl : (partL (svals ss) zs (k * 9)).length = n * 9 := by rw [partL_length HZL.out (by rw [svals_length, HL.out]; omega), svals_length, HL.out]
      have f0 : wt9.cell? ⟨w.heap.size, k * 9, none⟩ = some _ := (gc _).trans (hv (k * 9) _ (List.getElem?_eq_getElem (by omega)))
      have f1 : wt9.cell? ⟨w.heap.size, k * 9 + 1, none⟩ = some _ := (gc _).trans (hv (k * 9 + 1) _ (List.getElem?_eq_getElem (by omega)))
      have f2 : wt9.cell? ⟨w.heap.size, k * 9 + 2, none⟩ = some _ := (gc _).trans (hv (k * 9 + 2) _ (List.getElem?_eq_getElem (by omega)))
      have f3 : wt9.cell? ⟨w.heap.size, k * 9 + 3, none⟩ = some _ := (gc _).trans (hv (k * 9 + 3) _ (List.getElem?_eq_getElem (by omega)))
      have f4 : wt9.cell? ⟨w.heap.size, k * 9 + 4, none⟩ = some _ := (gc _).trans (hv (k * 9 + 4) _ (List.getElem?_eq_getElem (by omega)))
      have f5 : wt9.cell? ⟨w.heap.size, k * 9 + 5, none⟩ = some _ := (gc _).trans (hv (k * 9 + 5) _ (List.getElem?_eq_getElem (by omega)))
      have f6 : wt9.cell? ⟨w.heap.size, k * 9 + 6, none⟩ = some _ := (gc _).trans (hv (k * 9 + 6) _ (List.getElem?_eq_getElem (by omega)))
      have f7 : wt9.cell? ⟨w.heap.size, k * 9 + 7, none⟩ = some _ := (gc _).trans (hv (k * 9 + 7) _ (List.getElem?_eq_getElem (by omega)))
      have f8 : wt9.cell? ⟨w.heap.size, k * 9 + 8, none⟩ = some _ := (gc _).trans (hv (k * 9 + 8) _ (List.getElem?_eq_getElem (by omega)))
      generalize (partL (svals ss) zs (k * 9))[k * 9]'(by omega) = z0 at f0
      generalize (partL (svals ss) zs (k * 9))[k * 9 + 1]'(by omega) = z1 at f1
      generalize (partL (svals ss) zs (k * 9))[k * 9 + 2]'(by omega) = z2 at f2
      generalize (partL (svals ss) zs (k * 9))[k * 9 + 3]'(by omega) = z3 at f3
      generalize (partL (svals ss) zs (k * 9))[k * 9 + 4]'(by omega) = z4 at f4
      generalize (partL (svals ss) zs (k * 9))[k * 9 + 5]'(by omega) = z5 at f5
      generalize (partL (svals ss) zs (k * 9))[k * 9 + 6]'(by omega) = z6 at f6
      generalize (partL (svals ss) zs (k * 9))[k * 9 + 7]'(by omega) = z7 at f7
      generalize (partL (svals ss) zs (k * 9))[k * 9 + 8]'(by omega) = z8 at f8
      have GF := Lib.hid gf
      clear gc hv hblk hl
      go_wp2
      go_roundw
      case rel =>
        have w0 : k * 9 < (partL (svals ss) zs (k * 9)).length := by rw [partL_length HZL.out (by rw [svals_length, HL.out]; omega), svals_length, HL.out]; omega
        have p0 := own_put HO.out (k * 9) (.int .i64 x) w0
        rw [partL_set HZL.out (show (svals ss)[k * 9]? = some (.int .i64 x) from HX.out 0 (by decide))] at p0
        have w1 : k * 9 + 1 < (partL (svals ss) zs (k * 9 + 1)).length := by rw [partL_length HZL.out (by rw [svals_length, HL.out]; omega), svals_length, HL.out]; omega
        have p1 := own_put p0 (k * 9 + 1) (.int .i64 y) w1
        rw [partL_set HZL.out (show (svals ss)[k * 9 + 1]? = some (.int .i64 y) from HX.out 1 (by decide))] at p1
        have w2 : k * 9 + 2 < (partL (svals ss) zs (k * 9 + 2)).length := by rw [partL_length HZL.out (by rw [svals_length, HL.out]; omega), svals_length, HL.out]; omega
        have p2 := own_put p1 (k * 9 + 2) (.bool hd) w2
        rw [partL_set HZL.out (show (svals ss)[k * 9 + 2]? = some (.bool hd) from HX.out 2 (by decide))] at p2
        have w3 : k * 9 + 3 < (partL (svals ss) zs (k * 9 + 3)).length := by rw [partL_length HZL.out (by rw [svals_length, HL.out]; omega), svals_length, HL.out]; omega
        have p3 := own_put p2 (k * 9 + 3) (.int .i64 kd) w3
        rw [partL_set HZL.out (show (svals ss)[k * 9 + 3]? = some (.int .i64 kd) from HX.out 3 (by decide))] at p3
        have w4 : k * 9 + 4 < (partL (svals ss) zs (k * 9 + 4)).length := by rw [partL_length HZL.out (by rw [svals_length, HL.out]; omega), svals_length, HL.out]; omega
        have p4 := own_put p3 (k * 9 + 4) (.int .i64 wt) w4
        rw [partL_set HZL.out (show (svals ss)[k * 9 + 4]? = some (.int .i64 wt) from HX.out 4 (by decide))] at p4
        have w5 : k * 9 + 5 < (partL (svals ss) zs (k * 9 + 5)).length := by rw [partL_length HZL.out (by rw [svals_length, HL.out]; omega), svals_length, HL.out]; omega
        have p5 := own_put p4 (k * 9 + 5) (.int .i64 lg) w5
        rw [partL_set HZL.out (show (svals ss)[k * 9 + 5]? = some (.int .i64 lg) from HX.out 5 (by decide))] at p5
        have w6 : k * 9 + 6 < (partL (svals ss) zs (k * 9 + 6)).length := by rw [partL_length HZL.out (by rw [svals_length, HL.out]; omega), svals_length, HL.out]; omega
        have p6 := own_put p5 (k * 9 + 6) (.float .f32 tu) w6
        rw [partL_set HZL.out (show (svals ss)[k * 9 + 6]? = some (.float .f32 tu) from HX.out 6 (by decide))] at p6
        have w7 : k * 9 + 7 < (partL (svals ss) zs (k * 9 + 7)).length := by rw [partL_length HZL.out (by rw [svals_length, HL.out]; omega), svals_length, HL.out]; omega
        have p7 := own_put p6 (k * 9 + 7) (.float .f32 sz) w7
        rw [partL_set HZL.out (show (svals ss)[k * 9 + 7]? = some (.float .f32 sz) from HX.out 7 (by decide))] at p7
        have w8 : k * 9 + 8 < (partL (svals ss) zs (k * 9 + 8)).length := by rw [partL_length HZL.out (by rw [svals_length, HL.out]; omega), svals_length, HL.out]; omega
        have p8 := own_put p7 (k * 9 + 8) (.int .i64 sd) w8
        rw [partL_set HZL.out (show (svals ss)[k * 9 + 8]? = some (.int .i64 sd) from HX.out 8 (by decide))] at p8
        rw [show k * 9 + 8 + 1 = (k + 1) * 9 by omega] at p8
        exact ⟨k + 1, by omega, by go_num, p8, (((((((((HW.out.setCell (p := ⟨w.heap.size, k * 9, none⟩) (Nat.le_refl _) _).setCell (p := ⟨w.heap.size, k * 9 + 1, none⟩) (Nat.le_refl _) _).setCell (p := ⟨w.heap.size, k * 9 + 2, none⟩) (Nat.le_refl _) _).setCell (p := ⟨w.heap.size, k * 9 + 3, none⟩) (Nat.le_refl _) _).setCell (p := ⟨w.heap.size, k * 9 + 4, none⟩) (Nat.le_refl _) _).setCell (p := ⟨w.heap.size, k * 9 + 5, none⟩) (Nat.le_refl _) _).setCell (p := ⟨w.heap.size, k * 9 + 6, none⟩) (Nat.le_refl _) _).setCell (p := ⟨w.heap.size, k * 9 + 7, none⟩) (Nat.le_refl _) _).setCell (p := ⟨w.heap.size, k * 9 + 8, none⟩) (Nat.le_refl _) _), by simp; omega⟩
      case measure => simp [intOf]; omega
    · obtain rfl : k = n := by omega
      go_wp2
      go_ret
      have hp := partL_all (vs := svals ss) (zs := zs) HZL.out
      rw [svals_length, HL.out] at hp
      have := HO.out
      rw [hp] at this
      exact ⟨_, rfl, this, HW.out, hs⟩

theorem keep0c18_start {u : World} {p0 p1 p2 p3 p4 p5 p6 p7 p8 p9 p10 p11 p12 p13 p14 p15 p16 p17 : Addr} {v0 v1 v2 v3 v4 v5 v6 v7 v8 v9 v10 v11 v12 v13 v14 v15 v16 v17 : Value} (y0 : u.cell? p0 = some v0) (y1 : u.cell? p1 = some v1) (y2 : u.cell? p2 = some v2) (y3 : u.cell? p3 = some v3) (y4 : u.cell? p4 = some v4) (y5 : u.cell? p5 = some v5) (y6 : u.cell? p6 = some v6) (y7 : u.cell? p7 = some v7) (y8 : u.cell? p8 = some v8) (y9 : u.cell? p9 = some v9) (y10 : u.cell? p10 = some v10) (y11 : u.cell? p11 = some v11) (y12 : u.cell? p12 = some v12) (y13 : u.cell? p13 = some v13) (y14 : u.cell? p14 = some v14) (y15 : u.cell? p15 = some v15) (y16 : u.cell? p16 = some v16) (y17 : u.cell? p17 = some v17) : u.drew.cell? p0 = some v0 ∧ u.drew.cell? p1 = some v1 ∧ u.drew.cell? p2 = some v2 ∧ u.drew.cell? p3 = some v3 ∧ u.drew.cell? p4 = some v4 ∧ u.drew.cell? p5 = some v5 ∧ u.drew.cell? p6 = some v6 ∧ u.drew.cell? p7 = some v7 ∧ u.drew.cell? p8 = some v8 ∧ u.drew.cell? p9 = some v9 ∧ u.drew.cell? p10 = some v10 ∧ u.drew.cell? p11 = some v11 ∧ u.drew.cell? p12 = some v12 ∧ u.drew.cell? p13 = some v13 ∧ u.drew.cell? p14 = some v14 ∧ u.drew.cell? p15 = some v15 ∧ u.drew.cell? p16 = some v16 ∧ u.drew.cell? p17 = some v17 ∧ Below u.heap.size u u.drew :=
  ⟨y0, y1, y2, y3, y4, y5, y6, y7, y8, y9, y10, y11, y12, y13, y14, y15, y16, y17, (Below.refl _ _).drew⟩

theorem keep0c18_later {u w' w'' : World} {p0 p1 p2 p3 p4 p5 p6 p7 p8 p9 p10 p11 p12 p13 p14 p15 p16 p17 : Addr} {v0 v1 v2 v3 v4 v5 v6 v7 v8 v9 v10 v11 v12 v13 v14 v15 v16 v17 : Value} (y0 : u.cell? p0 = some v0) (y1 : u.cell? p1 = some v1) (y2 : u.cell? p2 = some v2) (y3 : u.cell? p3 = some v3) (y4 : u.cell? p4 = some v4) (y5 : u.cell? p5 = some v5) (y6 : u.cell? p6 = some v6) (y7 : u.cell? p7 = some v7) (y8 : u.cell? p8 = some v8) (y9 : u.cell? p9 = some v9) (y10 : u.cell? p10 = some v10) (y11 : u.cell? p11 = some v11) (y12 : u.cell? p12 = some v12) (y13 : u.cell? p13 = some v13) (y14 : u.cell? p14 = some v14) (y15 : u.cell? p15 = some v15) (y16 : u.cell? p16 = some v16) (y17 : u.cell? p17 = some v17) (h : w'.cell? p0 = some v0 ∧ w'.cell? p1 = some v1 ∧ w'.cell? p2 = some v2 ∧ w'.cell? p3 = some v3 ∧ w'.cell? p4 = some v4 ∧ w'.cell? p5 = some v5 ∧ w'.cell? p6 = some v6 ∧ w'.cell? p7 = some v7 ∧ w'.cell? p8 = some v8 ∧ w'.cell? p9 = some v9 ∧ w'.cell? p10 = some v10 ∧ w'.cell? p11 = some v11 ∧ w'.cell? p12 = some v12 ∧ w'.cell? p13 = some v13 ∧ w'.cell? p14 = some v14 ∧ w'.cell? p15 = some v15 ∧ w'.cell? p16 = some v16 ∧ w'.cell? p17 = some v17 ∧ Below u.heap.size u w') (b : Below w'.heap.size w' w'') : w''.cell? p0 = some v0 ∧ w''.cell? p1 = some v1 ∧ w''.cell? p2 = some v2 ∧ w''.cell? p3 = some v3 ∧ w''.cell? p4 = some v4 ∧ w''.cell? p5 = some v5 ∧ w''.cell? p6 = some v6 ∧ w''.cell? p7 = some v7 ∧ w''.cell? p8 = some v8 ∧ w''.cell? p9 = some v9 ∧ w''.cell? p10 = some v10 ∧ w''.cell? p11 = some v11 ∧ w''.cell? p12 = some v12 ∧ w''.cell? p13 = some v13 ∧ w''.cell? p14 = some v14 ∧ w''.cell? p15 = some v15 ∧ w''.cell? p16 = some v16 ∧ w''.cell? p17 = some v17 ∧ Below u.heap.size u w'' := by
  have B := h.2.2.2.2.2.2.2.2.2.2.2.2.2.2.2.2.2.2.trans (b.mono h.2.2.2.2.2.2.2.2.2.2.2.2.2.2.2.2.2.2.size)
  exact ⟨(cell_on y0 B), (cell_on y1 B), (cell_on y2 B), (cell_on y3 B), (cell_on y4 B), (cell_on y5 B), (cell_on y6 B), (cell_on y7 B), (cell_on y8 B), (cell_on y9 B), (cell_on y10 B), (cell_on y11 B), (cell_on y12 B), (cell_on y13 B), (cell_on y14 B), (cell_on y15 B), (cell_on y16 B), (cell_on y17 B), B⟩

set_option maxHeartbeats 8000000 in
set_option maxRecDepth 100000 in
theorem eqSourceS_any (a b : Option Addr) (ca cb : Nat) (ss : List Src) (w : World) (ha : RowV w a (svals ss)) (hb : RowV w b (svals ss)) (hok : ∀ s ∈ ss, s.ok) (hn : ss.length ≤ maxLen) :
    Calls Try.prog 36 #[.slice a ss.length ca, .slice b ss.length cb] w fun e w' => e = .returned (.bool true) ∧ Below w.heap.size w w' := by
  unfold maxLen at hn
  generalize hlen : ss.length = n at hn ⊢
  have HL := Lib.hid hlen; clear hlen
  go_enter Try.func36, Try.ntmps36
  go_wp2
  go_loopw [5] (fun i wr => ∃ k : Nat, k ≤ n ∧ i = .int .i64 k ∧ Below w.heap.size w wr) (fun i _ => n - (intOf i).toNat)
  case atStart => exact ⟨0, Nat.zero_le _, rfl, Below.refl _ _⟩
  case round =>
    obtain ⟨k, hk, rfl, hbel⟩ := hrel
    have HW := Lib.hid hbel; clear hbel
    by_cases hlt : k < n
    · have k1 : k < ss.length := by rw [HL.out]; exact hlt
      have hx : ∀ (j : Nat) (hj : j < 9), (svals ss)[k * 9 + j]? = ss[k].cells[j]? := svals_get k1
      have hs := hok _ (List.getElem_mem k1)
      generalize ss[k] = s at *
      obtain ⟨x, y, hd, kd, wt, lg, tu, sz, sd⟩ := s
      obtain ⟨q1, q2⟩ := hs
      replace q1 : tu < 2 ^ 32 := q1
      replace q2 : sz < 2 ^ 32 := q2
      obtain ⟨b1, ob1, rfl, d0_0⟩ := ha _ (.int .i64 x) (hx 0 (by decide))
      obtain ⟨b', off', e', d0_1⟩ := ha _ (.int .i64 y) (hx 1 (by decide)); cases e'
      obtain ⟨b', off', e', d0_2⟩ := ha _ (.bool hd) (hx 2 (by decide)); cases e'
      obtain ⟨b', off', e', d0_3⟩ := ha _ (.int .i64 kd) (hx 3 (by decide)); cases e'
      obtain ⟨b', off', e', d0_4⟩ := ha _ (.int .i64 wt) (hx 4 (by decide)); cases e'
      obtain ⟨b', off', e', d0_5⟩ := ha _ (.int .i64 lg) (hx 5 (by decide)); cases e'
      obtain ⟨b', off', e', d0_6⟩ := ha _ (.float .f32 tu) (hx 6 (by decide)); cases e'
      obtain ⟨b', off', e', d0_7⟩ := ha _ (.float .f32 sz) (hx 7 (by decide)); cases e'
      obtain ⟨b', off', e', d0_8⟩ := ha _ (.int .i64 sd) (hx 8 (by decide)); cases e'
      have c0 : wr.cell? ⟨b1, ob1 + k * 9, none⟩ = some (.int .i64 x) := (Below.cell HW.out (p := ⟨b1, ob1 + (k * 9 + 0), none⟩) (lt_of_cell d0_0)).trans d0_0
      have c1 : wr.cell? ⟨b1, ob1 + k * 9 + 1, none⟩ = some (.int .i64 y) := (Below.cell HW.out (p := ⟨b1, ob1 + (k * 9 + 1), none⟩) (lt_of_cell d0_1)).trans d0_1
      have c2 : wr.cell? ⟨b1, ob1 + k * 9 + 2, none⟩ = some (.bool hd) := (Below.cell HW.out (p := ⟨b1, ob1 + (k * 9 + 2), none⟩) (lt_of_cell d0_2)).trans d0_2
      have c3 : wr.cell? ⟨b1, ob1 + k * 9 + 3, none⟩ = some (.int .i64 kd) := (Below.cell HW.out (p := ⟨b1, ob1 + (k * 9 + 3), none⟩) (lt_of_cell d0_3)).trans d0_3
      have c4 : wr.cell? ⟨b1, ob1 + k * 9 + 4, none⟩ = some (.int .i64 wt) := (Below.cell HW.out (p := ⟨b1, ob1 + (k * 9 + 4), none⟩) (lt_of_cell d0_4)).trans d0_4
      have c5 : wr.cell? ⟨b1, ob1 + k * 9 + 5, none⟩ = some (.int .i64 lg) := (Below.cell HW.out (p := ⟨b1, ob1 + (k * 9 + 5), none⟩) (lt_of_cell d0_5)).trans d0_5
      have c6 : wr.cell? ⟨b1, ob1 + k * 9 + 6, none⟩ = some (.float .f32 tu) := (Below.cell HW.out (p := ⟨b1, ob1 + (k * 9 + 6), none⟩) (lt_of_cell d0_6)).trans d0_6
      have c7 : wr.cell? ⟨b1, ob1 + k * 9 + 7, none⟩ = some (.float .f32 sz) := (Below.cell HW.out (p := ⟨b1, ob1 + (k * 9 + 7), none⟩) (lt_of_cell d0_7)).trans d0_7
      have c8 : wr.cell? ⟨b1, ob1 + k * 9 + 8, none⟩ = some (.int .i64 sd) := (Below.cell HW.out (p := ⟨b1, ob1 + (k * 9 + 8), none⟩) (lt_of_cell d0_8)).trans d0_8
      obtain ⟨b2, ob2, rfl, d1_0⟩ := hb _ (.int .i64 x) (hx 0 (by decide))
      obtain ⟨b', off', e', d1_1⟩ := hb _ (.int .i64 y) (hx 1 (by decide)); cases e'
      obtain ⟨b', off', e', d1_2⟩ := hb _ (.bool hd) (hx 2 (by decide)); cases e'
      obtain ⟨b', off', e', d1_3⟩ := hb _ (.int .i64 kd) (hx 3 (by decide)); cases e'
      obtain ⟨b', off', e', d1_4⟩ := hb _ (.int .i64 wt) (hx 4 (by decide)); cases e'
      obtain ⟨b', off', e', d1_5⟩ := hb _ (.int .i64 lg) (hx 5 (by decide)); cases e'
      obtain ⟨b', off', e', d1_6⟩ := hb _ (.float .f32 tu) (hx 6 (by decide)); cases e'
      obtain ⟨b', off', e', d1_7⟩ := hb _ (.float .f32 sz) (hx 7 (by decide)); cases e'
      obtain ⟨b', off', e', d1_8⟩ := hb _ (.int .i64 sd) (hx 8 (by decide)); cases e'
      have c9 : wr.cell? ⟨b2, ob2 + k * 9, none⟩ = some (.int .i64 x) := (Below.cell HW.out (p := ⟨b2, ob2 + (k * 9 + 0), none⟩) (lt_of_cell d1_0)).trans d1_0
      have c10 : wr.cell? ⟨b2, ob2 + k * 9 + 1, none⟩ = some (.int .i64 y) := (Below.cell HW.out (p := ⟨b2, ob2 + (k * 9 + 1), none⟩) (lt_of_cell d1_1)).trans d1_1
      have c11 : wr.cell? ⟨b2, ob2 + k * 9 + 2, none⟩ = some (.bool hd) := (Below.cell HW.out (p := ⟨b2, ob2 + (k * 9 + 2), none⟩) (lt_of_cell d1_2)).trans d1_2
      have c12 : wr.cell? ⟨b2, ob2 + k * 9 + 3, none⟩ = some (.int .i64 kd) := (Below.cell HW.out (p := ⟨b2, ob2 + (k * 9 + 3), none⟩) (lt_of_cell d1_3)).trans d1_3
      have c13 : wr.cell? ⟨b2, ob2 + k * 9 + 4, none⟩ = some (.int .i64 wt) := (Below.cell HW.out (p := ⟨b2, ob2 + (k * 9 + 4), none⟩) (lt_of_cell d1_4)).trans d1_4
      have c14 : wr.cell? ⟨b2, ob2 + k * 9 + 5, none⟩ = some (.int .i64 lg) := (Below.cell HW.out (p := ⟨b2, ob2 + (k * 9 + 5), none⟩) (lt_of_cell d1_5)).trans d1_5
      have c15 : wr.cell? ⟨b2, ob2 + k * 9 + 6, none⟩ = some (.float .f32 tu) := (Below.cell HW.out (p := ⟨b2, ob2 + (k * 9 + 6), none⟩) (lt_of_cell d1_6)).trans d1_6
      have c16 : wr.cell? ⟨b2, ob2 + k * 9 + 7, none⟩ = some (.float .f32 sz) := (Below.cell HW.out (p := ⟨b2, ob2 + (k * 9 + 7), none⟩) (lt_of_cell d1_7)).trans d1_7
      have c17 : wr.cell? ⟨b2, ob2 + k * 9 + 8, none⟩ = some (.int .i64 sd) := (Below.cell HW.out (p := ⟨b2, ob2 + (k * 9 + 8), none⟩) (lt_of_cell d1_8)).trans d1_8
      clear hx d0_0 d0_1 d0_2 d0_3 d0_4 d0_5 d0_6 d0_7 d0_8 d1_0 d1_1 d1_2 d1_3 d1_4 d1_5 d1_6 d1_7 d1_8 ha hb
      have hki : ((k : Nat) : Int) < (n : Int) := by omega
      go_wp2_with fail
      go_region_held3 (fun w' => w'.cell? ⟨b1, ob1 + k * 9, none⟩ = some (.int .i64 x) ∧ w'.cell? ⟨b1, ob1 + k * 9 + 1, none⟩ = some (.int .i64 y) ∧ w'.cell? ⟨b1, ob1 + k * 9 + 2, none⟩ = some (.bool hd) ∧ w'.cell? ⟨b1, ob1 + k * 9 + 3, none⟩ = some (.int .i64 kd) ∧ w'.cell? ⟨b1, ob1 + k * 9 + 4, none⟩ = some (.int .i64 wt) ∧ w'.cell? ⟨b1, ob1 + k * 9 + 5, none⟩ = some (.int .i64 lg) ∧ w'.cell? ⟨b1, ob1 + k * 9 + 6, none⟩ = some (.float .f32 tu) ∧ w'.cell? ⟨b1, ob1 + k * 9 + 7, none⟩ = some (.float .f32 sz) ∧ w'.cell? ⟨b1, ob1 + k * 9 + 8, none⟩ = some (.int .i64 sd) ∧ w'.cell? ⟨b2, ob2 + k * 9, none⟩ = some (.int .i64 x) ∧ w'.cell? ⟨b2, ob2 + k * 9 + 1, none⟩ = some (.int .i64 y) ∧ w'.cell? ⟨b2, ob2 + k * 9 + 2, none⟩ = some (.bool hd) ∧ w'.cell? ⟨b2, ob2 + k * 9 + 3, none⟩ = some (.int .i64 kd) ∧ w'.cell? ⟨b2, ob2 + k * 9 + 4, none⟩ = some (.int .i64 wt) ∧ w'.cell? ⟨b2, ob2 + k * 9 + 5, none⟩ = some (.int .i64 lg) ∧ w'.cell? ⟨b2, ob2 + k * 9 + 6, none⟩ = some (.float .f32 tu) ∧ w'.cell? ⟨b2, ob2 + k * 9 + 7, none⟩ = some (.float .f32 sz) ∧ w'.cell? ⟨b2, ob2 + k * 9 + 8, none⟩ = some (.int .i64 sd) ∧ Below wr.heap.size wr w') (first | with_reducible exact keep0c18_start c0 c1 c2 c3 c4 c5 c6 c7 c8 c9 c10 c11 c12 c13 c14 c15 c16 c17 | with_reducible exact keep0c18_later c0 c1 c2 c3 c4 c5 c6 c7 c8 c9 c10 c11 c12 c13 c14 c15 c16 c17 (by assumption) (by assumption))
        ((go_at_call 78; (with_reducible refine (eqSource_any _ _ _ _ _ _ _ _ _ _ q1 q2).mono ?_); rintro r v2 ⟨rfl, qa⟩))
      have q := (below_next (below_drew wr) qa)
      clear qa
      replace HW := Lib.hid (HW.out.trans (q.mono HW.out.size))
      go_wp2
      go_roundw
      case rel => exact ⟨k + 1, by omega, by go_num, HW.out⟩
      case measure => simp [intOf]; omega
    · obtain rfl : k = n := by omega
      go_wp2
      go_ret
      exact ⟨rfl, HW.out⟩

end Go.Proofs.Ytkcododhfliobaa

end

section

namespace Go.Proofs.Ytkcododhfliobaa
open Go Ieee Go.RowKit
set_option linter.unusedVariables false

section
variable {P : Program} {ops : Array Oper} {Q : Exit → Act → World → Prop} {md : Region.Mode} {S : World → Prop}

/-- may all of these be passed over, one after another? (their slots: ds) -/
def skipB (md : Region.Mode) (ops : Array Oper) : List Nat → List Nat → Array Bool → Array Value → Bool
  | [], [], _, _ => true
  | i :: is, d :: ds, listed, t =>
    (match ops[i]? with
     | some o => o.dst == some d && !Region.wanted o (yielded ops t)
     | none => false) && (Region.free md ops listed i && ((Region.ready md ops listed).contains i && skipB md ops is ds (listed.setIfInBounds i true) (t.setIfInBounds d undef)))
  | _, _, _, _ => false

def skipT : List Nat → Array Value → Array Value
  | [], t => t
  | d :: ds, t => skipT ds (t.setIfInBounds d undef)

def skipL : List Nat → Array Bool → Array Bool
  | [], l => l
  | i :: is, l => skipL is (l.setIfInBounds i true)

theorem wpAnyH_skips (hs : Region.noSelect ops = true) (hQ : ∀ c (d : Tmp) (a : Act) w, Q (.panic c) (a.put (some d) undef) w → Q (.panic c) a w) :
    ∀ (is ds : List Nat) (fuel : Nat) (listed : Array Bool) (a : Act) (w : World), skipB md ops is ds listed a.tmps = true → S w →
      wpAnyH P md ops Q S fuel (skipL is listed) { a with tmps := skipT ds a.tmps } w → wpAnyH P md ops Q S (fuel + is.length) listed a w := by
  intro is
  induction is with
  | nil =>
    intro ds fuel listed a w hb hS h
    cases ds with
    | nil => exact h
    | cons d ds => cases hb
  | cons i is ih =>
    intro ds fuel listed a w hb hS h
    cases ds with
    | nil => cases hb
    | cons d ds =>
      unfold skipB at hb
      rw [Bool.and_eq_true, Bool.and_eq_true, Bool.and_eq_true] at hb
      obtain ⟨h1, h2, h3, h4⟩ := hb
      rcases ho : ops[i]? with _ | o
      · rw [ho] at h1; cases h1
      · rw [ho] at h1
        rw [Bool.and_eq_true] at h1
        have hd : o.dst = some d := by simpa using h1.1
        have hw : Region.wanted o (yielded ops a.tmps) = false := by simpa using h1.2
        have e : a.put o.dst undef = { a with tmps := a.tmps.setIfInBounds d undef } := by rw [hd]; rfl
        refine wpAnyH_take (fuel := fuel + is.length) (v := undef) ho hs h2 h3 (fun c a' w' hh => hQ c d a' w' (hd ▸ hh)) (Or.inr ⟨hw, rfl⟩) hS ?_
        rw [e]
        exact ih ds fuel _ _ w h4 hS h

theorem wpAnyH_skips_to {is ds : List Nat} {fuel : Nat} {listed l2 : Array Bool} {a a2 : Act} {w : World} (hs : Region.noSelect ops = true) (hQ : ∀ c (d : Tmp) (a : Act) w, Q (.panic c) (a.put (some d) undef) w → Q (.panic c) a w) (hb : skipB md ops is ds listed a.tmps = true) (hS : S w) (hl : skipL is listed = l2) (ht : { a with tmps := skipT ds a.tmps } = a2) (h : wpAnyH P md ops Q S fuel l2 a2 w) : wpAnyH P md ops Q S (fuel + is.length) listed a w :=
  wpAnyH_skips hs hQ is ds fuel listed a w hb hS (hl ▸ ht ▸ h)
end
end Go.Proofs.Ytkcododhfliobaa

end

section

namespace Go.Proofs.Ytkcododhfliobaa
open Go Ieee Go.RowKit
set_option linter.unusedVariables false

def srcB (wb : Bool) (wd hi : Int) (s : Src) : Bool := cellB wd hi s.x s.y && (!bordB wb wd hi s.x s.y && waveB s.kd s.wt s.lg s.tu s.sd)
def sourcesB (wb : Bool) (wd hi : Int) (ss : List Src) : Bool := decide (ss.length ≤ 8) && ss.all (srcB wb wd hi)

theorem sources_long {wb : Bool} {wd hi : Int} {ss : List Src} (h : ¬ ss.length ≤ 8) : sourcesB wb wd hi ss = false := by unfold sourcesB; rw [decide_eq_false h]; rfl
theorem sources_all {wb : Bool} {wd hi : Int} {ss : List Src} (h : ss.length ≤ 8) (a : ∀ j (hj : j < ss.length), srcB wb wd hi ss[j] = true) : sourcesB wb wd hi ss = true := by
  unfold sourcesB; rw [decide_eq_true h, all_of (p := srcB wb wd hi) a]; rfl
theorem sources_not {wb : Bool} {wd hi : Int} {ss : List Src} (k : Nat) (hk : k < ss.length) (h : srcB wb wd hi ss[k] = false) : sourcesB wb wd hi ss = false := by
  unfold sourcesB; rw [not_all (p := srcB wb wd hi) k hk h]; simp

theorem quietBorder (g : Nat) (wd hi x y : Int) (wb : Bool) (v3 v4 : Value) (c : Bool) (w : World) (n : Nat) (hc : bordB wb wd hi x y = c) (X : Blk w g #[.int .i64 wd, .int .i64 hi, .bool wb, v3, v4] 52) (s1 : 3 ≤ wd) (s2 : wd ≤ 16) (s3 : 3 ≤ hi) (s4 : hi ≤ 16) :
    Calls Try.prog 101 #[.pointer (some ⟨g, 0, none⟩), .int .i64 x, .int .i64 y] (w.drewN n) fun e w'' => e = .returned (.bool c) ∧ ∃ m, w'' = w.drewN m := by
  subst hc
  exact quietS (specBorder g wd hi x y wb v3 v4 _ (X.drewN _) s1 s2 s3 s4)

set_option maxHeartbeats 4000000 in
theorem specIsWaveAt (g q : Nat) (kd wt lg : Int) (tu sz : Nat) (sd : Int) (w : World) (c0 : w.cell? ⟨g, q, none⟩ = some (.int .i64 kd)) (c1 : w.cell? ⟨g, q + 1, none⟩ = some (.int .i64 wt)) (c2 : w.cell? ⟨g, q + 2, none⟩ = some (.int .i64 lg)) (c3 : w.cell? ⟨g, q + 3, none⟩ = some (.float .f32 tu)) (c4 : w.cell? ⟨g, q + 4, none⟩ = some (.float .f32 sz)) (c5 : w.cell? ⟨g, q + 5, none⟩ = some (.int .i64 sd)) :
    Calls Try.prog 56 #[.pointer (some ⟨g, q, none⟩)] w fun e w' => e = .returned (.bool (waveB kd wt lg tu sd)) ∧ ∃ n, w' = w.drewN n := by
  rcases H0 : decide (0 ≤ kd ∧ kd ≤ 4) with _ | _
  · skip
    have HV : Hid (waveB kd wt lg tu sd = false) := Lib.hid (by unfold waveB; rw [H0]; rfl)
    rw [HV.out]; clear HV
    go_enter Try.func56, Try.ntmps56
    go_wp2_with (first
        | (go_at_call 65; refine (l00In_any _ _ _ _).mono ?_; rintro e w' ⟨rfl, rfl⟩)
        | (go_at_call 60; refine (specTick _ _).mono ?_; rintro e w' ⟨rfl, rfl⟩)
        | (go_at_call 91; refine (specFinite _ _).mono ?_; rintro e w' ⟨rfl, nq, rfl⟩)
        | (go_at_call 66; refine (specSeed _ _).mono ?_; rintro e w' ⟨rfl, rfl⟩))
    go_ret
    exact ⟨rfl, 0, rfl⟩
  rcases H1 : tickB wt with _ | _
  · skip
    have HV : Hid (waveB kd wt lg tu sd = false) := Lib.hid (by unfold waveB; rw [H0, H1]; rfl)
    rw [HV.out]; clear HV
    go_enter Try.func56, Try.ntmps56
    go_wp2_with (first
        | (go_at_call 65; refine (l00In_any _ _ _ _).mono ?_; rintro e w' ⟨rfl, rfl⟩)
        | (go_at_call 60; refine (specTick _ _).mono ?_; rintro e w' ⟨rfl, rfl⟩)
        | (go_at_call 91; refine (specFinite _ _).mono ?_; rintro e w' ⟨rfl, nq, rfl⟩)
        | (go_at_call 66; refine (specSeed _ _).mono ?_; rintro e w' ⟨rfl, rfl⟩))
    go_ret
    exact ⟨rfl, 0, rfl⟩
  rcases H2 : decide (1 ≤ lg ∧ lg ≤ 1000000) with _ | _
  · skip
    have HV : Hid (waveB kd wt lg tu sd = false) := Lib.hid (by unfold waveB; rw [H0, H1, H2]; rfl)
    rw [HV.out]; clear HV
    go_enter Try.func56, Try.ntmps56
    go_wp2_with (first
        | (go_at_call 65; refine (l00In_any _ _ _ _).mono ?_; rintro e w' ⟨rfl, rfl⟩)
        | (go_at_call 60; refine (specTick _ _).mono ?_; rintro e w' ⟨rfl, rfl⟩)
        | (go_at_call 91; refine (specFinite _ _).mono ?_; rintro e w' ⟨rfl, nq, rfl⟩)
        | (go_at_call 66; refine (specSeed _ _).mono ?_; rintro e w' ⟨rfl, rfl⟩))
    go_ret
    exact ⟨rfl, 0, rfl⟩
  rcases H3 : finB .f32 tu with _ | _
  · skip
    have HV : Hid (waveB kd wt lg tu sd = false) := Lib.hid (by unfold waveB; rw [H0, H1, H2, H3]; rfl)
    rw [HV.out]; clear HV
    go_enter Try.func56, Try.ntmps56
    go_wp2_with (first
        | (go_at_call 65; refine (l00In_any _ _ _ _).mono ?_; rintro e w' ⟨rfl, rfl⟩)
        | (go_at_call 60; refine (specTick _ _).mono ?_; rintro e w' ⟨rfl, rfl⟩)
        | (go_at_call 91; refine (specFinite _ _).mono ?_; rintro e w' ⟨rfl, nq, rfl⟩)
        | (go_at_call 66; refine (specSeed _ _).mono ?_; rintro e w' ⟨rfl, rfl⟩))
    go_ret
    exact ⟨rfl, nq, rfl⟩
  rcases H4 : seedB sd with _ | _
  · skip
    have HV : Hid (waveB kd wt lg tu sd = false) := Lib.hid (by unfold waveB; rw [H0, H1, H2, H3, H4]; rfl)
    rw [HV.out]; clear HV
    go_enter Try.func56, Try.ntmps56
    go_wp2_with (first
        | (go_at_call 65; refine (l00In_any _ _ _ _).mono ?_; rintro e w' ⟨rfl, rfl⟩)
        | (go_at_call 60; refine (specTick _ _).mono ?_; rintro e w' ⟨rfl, rfl⟩)
        | (go_at_call 91; refine (specFinite _ _).mono ?_; rintro e w' ⟨rfl, nq, rfl⟩)
        | (go_at_call 66; refine (specSeed _ _).mono ?_; rintro e w' ⟨rfl, rfl⟩))
    go_ret
    exact ⟨rfl, nq, rfl⟩
  have HV : Hid (waveB kd wt lg tu sd = true) := Lib.hid (by unfold waveB; rw [H0, H1, H2, H3, H4]; rfl)
  rw [HV.out]; clear HV
  go_enter Try.func56, Try.ntmps56
  go_wp2_with (first
      | (go_at_call 65; refine (l00In_any _ _ _ _).mono ?_; rintro e w' ⟨rfl, rfl⟩)
      | (go_at_call 60; refine (specTick _ _).mono ?_; rintro e w' ⟨rfl, rfl⟩)
      | (go_at_call 91; refine (specFinite _ _).mono ?_; rintro e w' ⟨rfl, nq, rfl⟩)
      | (go_at_call 66; refine (specSeed _ _).mono ?_; rintro e w' ⟨rfl, rfl⟩))
  go_ret
  exact ⟨rfl, nq, rfl⟩

theorem quietWave (g q : Nat) (kd wt lg : Int) (tu sz : Nat) (sd : Int) (c : Bool) (w : World) (n : Nat) (hc : waveB kd wt lg tu sd = c) (c0 : w.cell? ⟨g, q, none⟩ = some (.int .i64 kd)) (c1 : w.cell? ⟨g, q + 1, none⟩ = some (.int .i64 wt)) (c2 : w.cell? ⟨g, q + 2, none⟩ = some (.int .i64 lg)) (c3 : w.cell? ⟨g, q + 3, none⟩ = some (.float .f32 tu)) (c4 : w.cell? ⟨g, q + 4, none⟩ = some (.float .f32 sz)) (c5 : w.cell? ⟨g, q + 5, none⟩ = some (.int .i64 sd)) :
    Calls Try.prog 56 #[.pointer (some ⟨g, q, none⟩)] (w.drewN n) fun e w'' => e = .returned (.bool c) ∧ ∃ m, w'' = w.drewN m := by
  subst hc
  exact (specIsWaveAt g q kd wt lg tu sz sd (w.drewN n) c0 c1 c2 c3 c4 c5).mono fun e w' ⟨h, m, hw⟩ => ⟨h, n + m, by rw [hw]; simp⟩

set_option maxHeartbeats 8000000 in
set_option maxRecDepth 100000 in
theorem specSourcesOf (g : Nat) (wd hi : Int) (wb : Bool) (v3 v4 : Value) (a : Option Addr) (ca : Nat) (ss : List Src) (w : World) (X : Blk w g #[.int .i64 wd, .int .i64 hi, .bool wb, v3, v4] 52) (s1 : 3 ≤ wd) (s2 : wd ≤ 16) (s3 : 3 ≤ hi) (s4 : hi ≤ 16) (ha : RowV w a (svals ss)) (hn : ss.length ≤ maxLen) :
    Calls Try.prog 71 #[.pointer (some ⟨g, 0, none⟩), .slice a ss.length ca] w fun e w' => e = .returned (.bool (sourcesB wb wd hi ss)) ∧ ∃ n, w' = w.drewN n := by
  unfold maxLen at hn
  by_cases h8 : ss.length ≤ 8
  rotate_left
  · have hb : (8 : Int) < (ss.length : Int) := by omega
    rw [sources_long h8]
    go_enter Try.func71, Try.ntmps71
    go_wp2
    go_ret
    exact ⟨rfl, 0, rfl⟩
  have HT : Hid ((∀ j (hj : j < ss.length), srcB wb wd hi ss[j] = true) → sourcesB wb wd hi ss = true) := Lib.hid (sources_all h8)
  have HF : Hid (∀ k, (hk : k < ss.length) → srcB wb wd hi ss[k] = false → sourcesB wb wd hi ss = false) := Lib.hid (fun k hk h => sources_not k hk h)
  generalize sourcesB wb wd hi ss = rb at *
  generalize hlen : ss.length = n at hn h8 ⊢
  have HL := Lib.hid hlen; clear hlen
  have hn8 : (n : Int) ≤ 8 := by omega
  go_enter Try.func71, Try.ntmps71
  go_wp2
  go_loopw [5, 6] (fun i _ wr => ∃ k : Nat, k ≤ n ∧ i = .int .i64 k ∧ (∀ j (hj : j < ss.length), j < k → srcB wb wd hi ss[j] = true) ∧ ∃ m, wr = w.drewN m) (fun i _ _ => n - (intOf i).toNat)
  case atStart => exact ⟨0, Nat.zero_le _, rfl, fun j _ h => by omega, 0, rfl⟩
  case round =>
    obtain ⟨k, hk, rfl, hall, m, hw⟩ := hrel
    have XR : Blk wr g #[.int .i64 wd, .int .i64 hi, .bool wb, v3, v4] 52 := by rw [hw]; exact X.drewN m
    have HW := Lib.hid hw; clear hw
    have HA := Lib.hid hall; clear hall
    by_cases hlt : k < n
    · have k1 : k < ss.length := by rw [HL.out]; exact hlt
      have hx : ∀ (j : Nat) (hj : j < 9), (svals ss)[k * 9 + j]? = ss[k].cells[j]? := svals_get k1
      have HNext : Hid (srcB wb wd hi ss[k] = true → ∀ j (hj : j < ss.length), j < k + 1 → srcB wb wd hi ss[j] = true) := Lib.hid (fun h j hj hjk => by
        by_cases e : j = k
        · subst e; exact h
        · exact HA.out j hj (by omega))
      have HStop : Hid (srcB wb wd hi ss[k] = false → rb = false) := Lib.hid (HF.out k k1)
      have hki : ((k : Nat) : Int) < (n : Int) := by omega
      generalize ss[k] = s at *
      obtain ⟨x, y, hd, kd, wt, lg, tu, sz, sd⟩ := s
      obtain ⟨b1, o1, rfl, d0⟩ := ha _ (.int .i64 x) (hx 0 (by decide))
      obtain ⟨b', off', e', d1⟩ := ha _ (.int .i64 y) (hx 1 (by decide)); cases e'
      obtain ⟨b', off', e', d2⟩ := ha _ (.bool hd) (hx 2 (by decide)); cases e'
      obtain ⟨b', off', e', d3⟩ := ha _ (.int .i64 kd) (hx 3 (by decide)); cases e'
      obtain ⟨b', off', e', d4⟩ := ha _ (.int .i64 wt) (hx 4 (by decide)); cases e'
      obtain ⟨b', off', e', d5⟩ := ha _ (.int .i64 lg) (hx 5 (by decide)); cases e'
      obtain ⟨b', off', e', d6⟩ := ha _ (.float .f32 tu) (hx 6 (by decide)); cases e'
      obtain ⟨b', off', e', d7⟩ := ha _ (.float .f32 sz) (hx 7 (by decide)); cases e'
      obtain ⟨b', off', e', d8⟩ := ha _ (.int .i64 sd) (hx 8 (by decide)); cases e'
      have c0 : wr.cell? ⟨b1, o1 + k * 9, none⟩ = some (.int .i64 x) := by rw [HW.out]; exact d0
      have c1 : wr.cell? ⟨b1, o1 + k * 9 + 1, none⟩ = some (.int .i64 y) := by rw [HW.out]; exact d1
      have c2 : wr.cell? ⟨b1, o1 + k * 9 + 2, none⟩ = some (.bool hd) := by rw [HW.out]; exact d2
      have c3 : wr.cell? ⟨b1, o1 + k * 9 + 3, none⟩ = some (.int .i64 kd) := by rw [HW.out]; exact d3
      have c4 : wr.cell? ⟨b1, o1 + k * 9 + 4, none⟩ = some (.int .i64 wt) := by rw [HW.out]; exact d4
      have c5 : wr.cell? ⟨b1, o1 + k * 9 + 5, none⟩ = some (.int .i64 lg) := by rw [HW.out]; exact d5
      have c6 : wr.cell? ⟨b1, o1 + k * 9 + 6, none⟩ = some (.float .f32 tu) := by rw [HW.out]; exact d6
      have c7 : wr.cell? ⟨b1, o1 + k * 9 + 7, none⟩ = some (.float .f32 sz) := by rw [HW.out]; exact d7
      have c8 : wr.cell? ⟨b1, o1 + k * 9 + 8, none⟩ = some (.int .i64 sd) := by rw [HW.out]; exact d8
      clear hx d0 d1 d2 d3 d4 d5 d6 d7 d8 ha HF HA
      rcases h1 : cellB wd hi x y with _ | _
      · skip
        have HSB : srcB wb wd hi ⟨x, y, hd, kd, wt, lg, tu, sz, sd⟩ = false := by unfold srcB; simp only [h1]; rfl
        obtain rfl := HStop.out HSB
        have HC1 := Lib.hid h1; clear h1
        clear HSB HNext
        go_wp2
        go_quiet ((first | (go_at_call 87; exact quietCell g wd hi x y wb v3 v4 _ _ _ HC1.out XR s1 s2 s3 s4)))
        go_wp2
        go_ret
        exact ⟨rfl, _, by rw [HW.out]; exact World.drewN_drewN ..⟩
      rcases h2 : bordB wb wd hi x y with _ | _
      rotate_left
      · skip
        have HSB : srcB wb wd hi ⟨x, y, hd, kd, wt, lg, tu, sz, sd⟩ = false := by unfold srcB; simp only [h1, h2]; rfl
        obtain rfl := HStop.out HSB
        have HC1 := Lib.hid h1; clear h1
        have HC2 := Lib.hid h2; clear h2
        clear HSB HNext
        go_wp2
        go_quiet ((first | (go_at_call 87; exact quietCell g wd hi x y wb v3 v4 _ _ _ HC1.out XR s1 s2 s3 s4) | (go_at_call 101; exact quietBorder g wd hi x y wb v3 v4 _ _ _ HC2.out XR s1 s2 s3 s4)))
        go_wp2
        go_ret
        exact ⟨rfl, _, by rw [HW.out]; exact World.drewN_drewN ..⟩
      rcases h3 : waveB kd wt lg tu sd with _ | _
      · skip
        have HSB : srcB wb wd hi ⟨x, y, hd, kd, wt, lg, tu, sz, sd⟩ = false := by unfold srcB; simp only [h1, h2, h3]; rfl
        obtain rfl := HStop.out HSB
        have HC1 := Lib.hid h1; clear h1
        have HC2 := Lib.hid h2; clear h2
        have HC3 := Lib.hid h3; clear h3
        clear HSB HNext
        go_wp2
        go_quiet ((first | (go_at_call 87; exact quietCell g wd hi x y wb v3 v4 _ _ _ HC1.out XR s1 s2 s3 s4) | (go_at_call 101; exact quietBorder g wd hi x y wb v3 v4 _ _ _ HC2.out XR s1 s2 s3 s4) | (go_at_call 56; exact quietWave b1 (o1 + k * 9 + 3) kd wt lg tu sz sd _ _ _ HC3.out c3 c4 c5 c6 c7 c8)))
        go_wp2
        go_ret
        exact ⟨rfl, _, by rw [HW.out]; exact World.drewN_drewN ..⟩
      · skip
        have HSB : srcB wb wd hi ⟨x, y, hd, kd, wt, lg, tu, sz, sd⟩ = true := by unfold srcB; simp only [h1, h2, h3]; rfl
        have HN := Lib.hid (HNext.out HSB)
        have HC1 := Lib.hid h1; clear h1
        have HC2 := Lib.hid h2; clear h2
        have HC3 := Lib.hid h3; clear h3
        clear HSB HNext
        go_wp2
        go_quiet ((first | (go_at_call 87; exact quietCell g wd hi x y wb v3 v4 _ _ _ HC1.out XR s1 s2 s3 s4) | (go_at_call 101; exact quietBorder g wd hi x y wb v3 v4 _ _ _ HC2.out XR s1 s2 s3 s4) | (go_at_call 56; exact quietWave b1 (o1 + k * 9 + 3) kd wt lg tu sz sd _ _ _ HC3.out c3 c4 c5 c6 c7 c8)))
        go_wp2
        go_roundw
        case rel => exact ⟨k + 1, by omega, by go_num, HN.out, _, by rw [HW.out]; exact World.drewN_drewN ..⟩
        case measure => simp [intOf]; omega
    · obtain rfl : k = n := by omega
      obtain rfl := HT.out (fun j hj => HA.out j hj (by rw [← HL.out]; exact hj))
      go_wp2
      go_ret
      exact ⟨rfl, _, HW.out⟩

set_option maxHeartbeats 2000000 in
theorem specAreSources (wd hi : Int) (wb : Bool) (a b : Option Addr) (ca cb : Nat) (xs ys : List Nat) (p : Option Addr) (cp : Nat) (ps : List Src) (w : World) (ha : RowV w a (fvals xs)) (hb : RowV w b (fvals ys)) (hx : xs.length ≤ maxLen) (hy : ys.length ≤ maxLen) (hp : RowV w p (svals ps)) (hok : ∀ s ∈ ps, Src.ok s) (hn : ps.length ≤ maxLen) :
    Calls Try.prog 31 #[.agg #[.int .i64 wd, .int .i64 hi, .bool wb, .slice a xs.length ca, .slice b ys.length cb], .slice p ps.length cp] w fun e w' => e = .returned (.bool (validB wd hi xs ys && sourcesB wb wd hi ps)) ∧ Below w.heap.size w w' := by
  rcases hv : validB wd hi xs ys with _ | _
  · skip
    have HV := Lib.hid hv; clear hv
    have X := Blk.new w #[.int .i64 wd, .int .i64 hi, .bool wb, .slice a xs.length ca, .slice b ys.length cb] 52
    have HB : Hid (Below w.heap.size w (w.alloc (.cells #[.int .i64 wd, .int .i64 hi, .bool wb, .slice a xs.length ca, .slice b ys.length cb] 52))) := Lib.hid ((Below.refl w.heap.size w).alloc (by simp <;> omega) _)
    go_enter Try.func31, Try.ntmps31
    go_wp2_with fail
    generalize (w.alloc (.cells #[.int .i64 wd, .int .i64 hi, .bool wb, .slice a xs.length ca, .slice b ys.length cb] 52)) = u1 at *
    refine (specIs _ _ _ _ _ _ _ _ _ _ _ X (ha.later HB.out) (hb.later HB.out) hx hy).mono ?_
    rintro r u2 ⟨rfl, nq, hw⟩
    have q : Below u1.heap.size u1 u2 := by rw [hw]; exact below_drewN (Below.refl _ _) _
    clear hw
    replace X := X.later q
    replace HB := Lib.hid (HB.out.trans (q.mono HB.out.size))
    clear q
    rw [HV.out]
    obtain ⟨Xc, Xf⟩ := X.open
    go_wp2
    go_ret
    exact ⟨rfl, HB.out⟩
  obtain ⟨s1, s2, s3, s4, t1, t2⟩ := sides_mul (valid_sides hv)
  have HV := Lib.hid hv; clear hv t1 t2
  have X := Blk.new w #[.int .i64 wd, .int .i64 hi, .bool wb, .slice a xs.length ca, .slice b ys.length cb] 52
  have HB : Hid (Below w.heap.size w (w.alloc (.cells #[.int .i64 wd, .int .i64 hi, .bool wb, .slice a xs.length ca, .slice b ys.length cb] 52))) := Lib.hid ((Below.refl w.heap.size w).alloc (by simp <;> omega) _)
  go_enter Try.func31, Try.ntmps31
  go_wp2_with fail
  generalize (w.alloc (.cells #[.int .i64 wd, .int .i64 hi, .bool wb, .slice a xs.length ca, .slice b ys.length cb] 52)) = u1 at *
  refine (specIs _ _ _ _ _ _ _ _ _ _ _ X (ha.later HB.out) (hb.later HB.out) hx hy).mono ?_
  rintro r u2 ⟨rfl, nq, hw⟩
  have q : Below u1.heap.size u1 u2 := by rw [hw]; exact below_drewN (Below.refl _ _) _
  clear hw
  replace X := X.later q
  replace HB := Lib.hid (HB.out.trans (q.mono HB.out.size))
  clear q
  rw [HV.out]
  obtain ⟨Xc, Xf⟩ := X.open
  go_wp2_with fail
  refine (specSourcesOf _ _ _ _ _ _ _ _ _ _ X s1 s2 s3 s4 (hp.later HB.out) hn).mono ?_
  rintro r u3 ⟨rfl, nr, hw⟩
  have q : Below u2.heap.size u2 u3 := by rw [hw]; exact below_drewN (Below.refl _ _) _
  clear hw
  clear Xc Xf
  replace X := X.later q
  replace HB := Lib.hid (HB.out.trans (q.mono HB.out.size))
  clear q
  go_wp2
  go_ret
  exact ⟨rfl, HB.out⟩

set_option maxHeartbeats 2000000 in
theorem sourcePlace (x y : Int) (hd : Bool) (kd wt lg : Int) (tu sz : Nat) (sd : Int) (w : World) : Calls Try.prog 76 #[.agg #[.int .i64 x, .int .i64 y, .bool hd, .int .i64 kd, .int .i64 wt, .int .i64 lg, .float .f32 tu, .float .f32 sz, .int .i64 sd]] w fun e w' => e = .returned (.agg #[.int .i64 x, .int .i64 y]) ∧ Below w.heap.size w w' := by
  go_enter Try.func76, Try.ntmps76
  go_wp2
  refine bodyPost_ret (v := .agg #[.int .i64 x, .int .i64 y]) (by simp [results, Try.results76, go_sem]) rfl ⟨rfl, ?_⟩
  exact ((Below.refl w.heap.size w).alloc (Nat.le_refl _) _).alloc (by simp) _

set_option maxHeartbeats 8000000 in
set_option maxRecDepth 100000 in
theorem implAreSources (wd hi : Int) (wb : Bool) (a b : Option Addr) (ca cb : Nat) (xs ys : List Nat) (p : Option Addr) (cp : Nat) (ps : List Src) (w : World) (ha : RowV w a (fvals xs)) (hb : RowV w b (fvals ys)) (hx : xs.length ≤ maxLen) (hy : ys.length ≤ maxLen) (hp : RowV w p (svals ps)) (hok : ∀ s ∈ ps, Src.ok s) (hn : ps.length ≤ maxLen) :
    Calls Try.prog 34 #[.agg #[.int .i64 wd, .int .i64 hi, .bool wb, .slice a xs.length ca, .slice b ys.length cb], .slice p ps.length cp] w fun e w' => e = .returned (.bool (validB wd hi xs ys && sourcesB wb wd hi ps)) ∧ Below w.heap.size w w' := by
  rcases hv : validB wd hi xs ys with _ | _
  · skip
    have HV := Lib.hid hv; clear hv
    have X := Blk.new w #[.int .i64 wd, .int .i64 hi, .bool wb, .slice a xs.length ca, .slice b ys.length cb] 52
    have HB : Hid (Below w.heap.size w (w.alloc (.cells #[.int .i64 wd, .int .i64 hi, .bool wb, .slice a xs.length ca, .slice b ys.length cb] 52))) := Lib.hid ((Below.refl w.heap.size w).alloc (by simp <;> omega) _)
    go_enter Try.func34, Try.ntmps34
    go_wp2_with fail
    generalize (w.alloc (.cells #[.int .i64 wd, .int .i64 hi, .bool wb, .slice a xs.length ca, .slice b ys.length cb] 52)) = u1 at *
    refine (implValidSheet _ _ _ _ _ _ _ _ _ _ (ha.later HB.out) (hb.later HB.out) hx hy).mono ?_
    rintro r u2 ⟨rfl, q⟩
    replace X := X.later q
    replace HB := Lib.hid (HB.out.trans (q.mono HB.out.size))
    clear q
    rw [HV.out]
    obtain ⟨Xc, Xf⟩ := X.open
    go_wp2
    go_ret
    exact ⟨rfl, HB.out⟩
  obtain ⟨s1, s2, s3, s4, t1, t2⟩ := sides_mul (valid_sides hv)
  have HV := Lib.hid hv; clear hv t1 t2
  unfold maxLen at hn
  by_cases h8 : ps.length ≤ 8
  rotate_left
  · skip
    rw [sources_long h8]
    have h8b : (8 : Int) < (ps.length : Int) := by omega
    have X := Blk.new w #[.int .i64 wd, .int .i64 hi, .bool wb, .slice a xs.length ca, .slice b ys.length cb] 52
    have HB : Hid (Below w.heap.size w (w.alloc (.cells #[.int .i64 wd, .int .i64 hi, .bool wb, .slice a xs.length ca, .slice b ys.length cb] 52))) := Lib.hid ((Below.refl w.heap.size w).alloc (by simp <;> omega) _)
    go_enter Try.func34, Try.ntmps34
    go_wp2_with fail
    generalize (w.alloc (.cells #[.int .i64 wd, .int .i64 hi, .bool wb, .slice a xs.length ca, .slice b ys.length cb] 52)) = u1 at *
    refine (implValidSheet _ _ _ _ _ _ _ _ _ _ (ha.later HB.out) (hb.later HB.out) hx hy).mono ?_
    rintro r u2 ⟨rfl, q⟩
    replace X := X.later q
    replace HB := Lib.hid (HB.out.trans (q.mono HB.out.size))
    clear q
    rw [HV.out]
    obtain ⟨Xc, Xf⟩ := X.open
    go_wp2
    go_ret
    exact ⟨rfl, HB.out⟩
  have HT : Hid ((∀ j (hj : j < ps.length), srcB wb wd hi ps[j] = true) → sourcesB wb wd hi ps = true) := Lib.hid (sources_all h8)
  have HF : Hid (∀ k, (hk : k < ps.length) → srcB wb wd hi ps[k] = false → sourcesB wb wd hi ps = false) := Lib.hid (fun k hk h => sources_not k hk h)
  generalize sourcesB wb wd hi ps = rb at *
  generalize hlen : ps.length = n at hn h8 ⊢
  have HL := Lib.hid hlen; clear hlen
  have hn8 : (n : Int) ≤ 8 := by omega
  have X := Blk.new w #[.int .i64 wd, .int .i64 hi, .bool wb, .slice a xs.length ca, .slice b ys.length cb] 52
  have HB : Hid (Below w.heap.size w (w.alloc (.cells #[.int .i64 wd, .int .i64 hi, .bool wb, .slice a xs.length ca, .slice b ys.length cb] 52))) := Lib.hid ((Below.refl w.heap.size w).alloc (by simp <;> omega) _)
  go_enter Try.func34, Try.ntmps34
  go_wp2_with fail
  generalize (w.alloc (.cells #[.int .i64 wd, .int .i64 hi, .bool wb, .slice a xs.length ca, .slice b ys.length cb] 52)) = u1 at *
  refine (implValidSheet _ _ _ _ _ _ _ _ _ _ (ha.later HB.out) (hb.later HB.out) hx hy).mono ?_
  rintro r u2 ⟨rfl, q⟩
  replace X := X.later q
  replace HB := Lib.hid (HB.out.trans (q.mono HB.out.size))
  clear q
  rw [HV.out]
  obtain ⟨Xc, Xf⟩ := X.open
  go_wp2_with fail
  refine (implShapeOf _ _ _ _ _ _ _ _ _ _).mono ?_
  rintro r u3 ⟨rfl, q⟩
  clear Xc Xf
  replace X := X.later q
  replace HB := Lib.hid (HB.out.trans (q.mono HB.out.size))
  clear q
  have Z := Blk.new u3 #[.int .i64 wd, .int .i64 hi, .bool wb] 101
  have q := below_new u3 (.cells #[.int .i64 wd, .int .i64 hi, .bool wb] 101)
  replace X := X.later q
  replace HB := Lib.hid (HB.out.trans (q.mono HB.out.size))
  clear q
  obtain ⟨Zc, Zf⟩ := Z.open
  go_wp2_with fail
  generalize (u3.alloc (.cells #[.int .i64 wd, .int .i64 hi, .bool wb] 101)) = u4 at *
  have hzb : u3.heap.size < u4.heap.size := Z.lt
  go_loopw [7, 20] (fun _ i wr => ∃ k : Nat, k ≤ n ∧ i = .int .i64 k ∧ (∀ j (hj : j < ps.length), j < k → srcB wb wd hi ps[j] = true) ∧ Below u4.heap.size u4 wr) (fun _ i _ => n - (intOf i).toNat)
  case atStart => exact ⟨0, Nat.zero_le _, rfl, fun j _ h => by omega, Below.refl _ _⟩
  case round =>
    obtain ⟨k, hk, rfl, hall, hbel⟩ := hrel
    have HA := Lib.hid hall; clear hall
    clear Zc Zf
    replace Z := Z.later hbel
    replace HB := Lib.hid (HB.out.trans (hbel.mono HB.out.size))
    by_cases hlt : k < n
    · skip
      have k1 : k < ps.length := by rw [HL.out]; exact hlt
      have hx : ∀ (j : Nat) (hj : j < 9), (svals ps)[k * 9 + j]? = ps[k].cells[j]? := svals_get k1
      have hsok := hok _ (List.getElem_mem k1)
      have HNext : Hid (srcB wb wd hi ps[k] = true → ∀ j (hj : j < ps.length), j < k + 1 → srcB wb wd hi ps[j] = true) := Lib.hid (fun h j hj hjk => by
        by_cases e : j = k
        · subst e; exact h
        · exact HA.out j hj (by omega))
      have HStop : Hid (srcB wb wd hi ps[k] = false → rb = false) := Lib.hid (HF.out k k1)
      have hki : ((k : Nat) : Int) < (n : Int) := by omega
      generalize ps[k] = s at *
      obtain ⟨x, y, hd, kd, wt, lg, tu, sz, sd⟩ := s
      obtain ⟨q1, q2⟩ := hsok
      replace q1 : tu < 2 ^ 32 := q1
      obtain ⟨b1, o1, rfl, d0⟩ := hp _ (.int .i64 x) (hx 0 (by decide))
      obtain ⟨b', off', e', d1⟩ := hp _ (.int .i64 y) (hx 1 (by decide)); cases e'
      obtain ⟨b', off', e', d2⟩ := hp _ (.bool hd) (hx 2 (by decide)); cases e'
      obtain ⟨b', off', e', d3⟩ := hp _ (.int .i64 kd) (hx 3 (by decide)); cases e'
      obtain ⟨b', off', e', d4⟩ := hp _ (.int .i64 wt) (hx 4 (by decide)); cases e'
      obtain ⟨b', off', e', d5⟩ := hp _ (.int .i64 lg) (hx 5 (by decide)); cases e'
      obtain ⟨b', off', e', d6⟩ := hp _ (.float .f32 tu) (hx 6 (by decide)); cases e'
      obtain ⟨b', off', e', d7⟩ := hp _ (.float .f32 sz) (hx 7 (by decide)); cases e'
      obtain ⟨b', off', e', d8⟩ := hp _ (.int .i64 sd) (hx 8 (by decide)); cases e'
      have c0 : wr.cell? ⟨b1, o1 + k * 9, none⟩ = some (.int .i64 x) := (Below.cell HB.out (p := ⟨b1, o1 + (k * 9 + 0), none⟩) (lt_of_cell d0)).trans d0
      have c1 : wr.cell? ⟨b1, o1 + k * 9 + 1, none⟩ = some (.int .i64 y) := (Below.cell HB.out (p := ⟨b1, o1 + (k * 9 + 1), none⟩) (lt_of_cell d1)).trans d1
      have c2 : wr.cell? ⟨b1, o1 + k * 9 + 2, none⟩ = some (.bool hd) := (Below.cell HB.out (p := ⟨b1, o1 + (k * 9 + 2), none⟩) (lt_of_cell d2)).trans d2
      have c3 : wr.cell? ⟨b1, o1 + k * 9 + 3, none⟩ = some (.int .i64 kd) := (Below.cell HB.out (p := ⟨b1, o1 + (k * 9 + 3), none⟩) (lt_of_cell d3)).trans d3
      have c4 : wr.cell? ⟨b1, o1 + k * 9 + 4, none⟩ = some (.int .i64 wt) := (Below.cell HB.out (p := ⟨b1, o1 + (k * 9 + 4), none⟩) (lt_of_cell d4)).trans d4
      have c5 : wr.cell? ⟨b1, o1 + k * 9 + 5, none⟩ = some (.int .i64 lg) := (Below.cell HB.out (p := ⟨b1, o1 + (k * 9 + 5), none⟩) (lt_of_cell d5)).trans d5
      have c6 : wr.cell? ⟨b1, o1 + k * 9 + 6, none⟩ = some (.float .f32 tu) := (Below.cell HB.out (p := ⟨b1, o1 + (k * 9 + 6), none⟩) (lt_of_cell d6)).trans d6
      have c7 : wr.cell? ⟨b1, o1 + k * 9 + 7, none⟩ = some (.float .f32 sz) := (Below.cell HB.out (p := ⟨b1, o1 + (k * 9 + 7), none⟩) (lt_of_cell d7)).trans d7
      have c8 : wr.cell? ⟨b1, o1 + k * 9 + 8, none⟩ = some (.int .i64 sd) := (Below.cell HB.out (p := ⟨b1, o1 + (k * 9 + 8), none⟩) (lt_of_cell d8)).trans d8
      clear hx d0 d1 d2 d3 d4 d5 d6 d7 d8 HA
      have Y := Blk.new wr #[.int .i64 x, .int .i64 y, .bool hd, .int .i64 kd, .int .i64 wt, .int .i64 lg, .float .f32 tu, .float .f32 sz, .int .i64 sd] 95
      have q0 := below_new wr (.cells #[.int .i64 x, .int .i64 y, .bool hd, .int .i64 kd, .int .i64 wt, .int .i64 lg, .float .f32 tu, .float .f32 sz, .int .i64 sd] 95)
      replace Z := Z.later q0
      replace HB := Lib.hid (HB.out.trans (q0.mono HB.out.size))
      have hb2 := hbel.trans (q0.mono hbel.size)
      have HB2 := Lib.hid hb2; clear hb2 hbel q0
      rcases h1 : cellB wd hi x y with _ | _
      · skip
        have HSB : srcB wb wd hi ⟨x, y, hd, kd, wt, lg, tu, sz, sd⟩ = false := by unfold srcB; simp only [h1]; rfl
        obtain rfl := HStop.out HSB
        have HC1 := Lib.hid h1; clear h1
        clear HSB HNext HStop
        go_upto_region 7 with (fail)
        generalize wr.alloc (.cells #[.int .i64 x, .int .i64 y, .bool hd, .int .i64 kd, .int .i64 wt, .int .i64 lg, .float .f32 tu, .float .f32 sz, .int .i64 sd] 95) = v0 at *
        refine wp_region_held_drew (S := (fun w' : World => (∀ i, w'.cell? ⟨u3.heap.size, i, none⟩ = (#[.int .i64 wd, .int .i64 hi, .bool wb] : Array Value)[i]?) ∧ (∀ i, w'.cell? ⟨wr.heap.size, i, none⟩ = (#[.int .i64 x, .int .i64 y, .bool hd, .int .i64 kd, .int .i64 wt, .int .i64 lg, .float .f32 tu, .float .f32 sz, .int .i64 sd] : Array Value)[i]?) ∧ Below v0.heap.size v0 w')) (by kernel_rfl) (keep2_start Z Y) (fun hH => ?_)
        refine wpAnyH_take (i := 0) (v := ?_) rfl (by kernel_rfl) (by kernel_rfl) (by kernel_rfl) (fun _ _ _ h => h) (Or.inl ⟨by rfl, ?_⟩) hH ?_
        rotate_left
        · intro w9 hSw; (try dsimp only at hSw); go_simp; try with_reducible rfl
        try simp only [Act.put, List.getElem_toArray, List.getElem_cons_succ, List.getElem_cons_zero, List.setIfInBounds_toArray, List.set_cons_zero, List.set_cons_succ]
        refine wpAnyH_take (i := 1) (v := ?_) rfl (by kernel_rfl) (by kernel_rfl) (by kernel_rfl) (fun _ _ _ h => h) (Or.inl ⟨by rfl, ?_⟩) hH ?_
        rotate_left
        · intro w9 hSw; (try dsimp only at hSw); go_simp; try with_reducible rfl
        try simp only [Act.put, List.getElem_toArray, List.getElem_cons_succ, List.getElem_cons_zero, List.setIfInBounds_toArray, List.set_cons_zero, List.set_cons_succ]
        refine wpAnyH_ready (rs := [2]) (by kernel_rfl) (by simp) ?_
        refine AllReadyH.cons (o := _) rfl (fun K hK => ?_) AllReadyH.nil
        go_simp
        (with_reducible refine (sourcePlace _ _ _ _ _ _ _ _ _ _).mono ?_)
        rintro r u101 ⟨rfl, qa0⟩
        refine hK.out _ _ (keep2_later Z Y hH qa0) (fun hH2 => ?_)
        clear hK K hH
        have hH := hH2; clear hH2
        try simp only [Act.put, List.getElem_toArray, List.getElem_cons_succ, List.getElem_cons_zero, List.setIfInBounds_toArray, List.set_cons_zero, List.set_cons_succ]
        refine wpAnyH_ready (rs := [3]) (by kernel_rfl) (by simp) ?_
        refine AllReadyH.cons (o := _) rfl (fun K hK => ?_) AllReadyH.nil
        go_simp
        (with_reducible refine (implHas _ _ _ _ _ _ s1 s2 s3 s4).mono ?_)
        rintro r u102 ⟨rfl, qa1⟩
        refine hK.out _ _ (keep2_later Z Y hH qa1) (fun hH2 => ?_)
        clear hK K hH
        have hH := hH2; clear hH2
        try simp only [Act.put, List.getElem_toArray, List.getElem_cons_succ, List.getElem_cons_zero, List.setIfInBounds_toArray, List.set_cons_zero, List.set_cons_succ]
        rw [HC1.out]
        refine wpAnyH_take (i := 4) (v := ?_) rfl (by kernel_rfl) (by kernel_rfl) (by kernel_rfl) (fun _ _ _ h => h) (Or.inl ⟨by rfl, ?_⟩) hH ?_
        rotate_left
        · intro w9 hSw; (try dsimp only at hSw); go_simp; try with_reducible rfl
        try simp only [Act.put, List.getElem_toArray, List.getElem_cons_succ, List.getElem_cons_zero, List.setIfInBounds_toArray, List.set_cons_zero, List.set_cons_succ]
        refine wpAnyH_take (i := 5) (v := ?_) rfl (by kernel_rfl) (by kernel_rfl) (by kernel_rfl) (fun _ _ _ h => h) (Or.inl ⟨by rfl, ?_⟩) hH ?_
        rotate_left
        · intro w9 hSw; (try dsimp only at hSw); go_simp; try with_reducible rfl
        try simp only [Act.put, List.getElem_toArray, List.getElem_cons_succ, List.getElem_cons_zero, List.setIfInBounds_toArray, List.set_cons_zero, List.set_cons_succ]
        refine wpAnyH_skips_to (is := [6, 7, 8, 9]) (ds := [30, 31, 32, 33]) (by kernel_rfl) (fun _ _ _ _ h => h) (by kernel_rfl) hH rfl (by simp only [skipT, List.setIfInBounds_toArray, List.set_cons_zero, List.set_cons_succ]; rfl) ?_
        refine wpAnyH_take (i := 10) (v := ?_) rfl (by kernel_rfl) (by kernel_rfl) (by kernel_rfl) (fun _ _ _ h => h) (Or.inl ⟨by rfl, ?_⟩) hH ?_
        rotate_left
        · intro w9 hSw; (try dsimp only at hSw); go_simp; try with_reducible rfl
        try simp only [Act.put, List.getElem_toArray, List.getElem_cons_succ, List.getElem_cons_zero, List.setIfInBounds_toArray, List.set_cons_zero, List.set_cons_succ]
        refine wpAnyH_take (i := 11) (v := ?_) rfl (by kernel_rfl) (by kernel_rfl) (by kernel_rfl) (fun _ _ _ h => h) (Or.inl ⟨by rfl, ?_⟩) hH ?_
        rotate_left
        · intro w9 hSw; (try dsimp only at hSw); go_simp; try with_reducible rfl
        try simp only [Act.put, List.getElem_toArray, List.getElem_cons_succ, List.getElem_cons_zero, List.setIfInBounds_toArray, List.set_cons_zero, List.set_cons_succ]
        refine wpAnyH_skips_to (is := [12, 13, 14, 15]) (ds := [36, 37, 38, 39]) (by kernel_rfl) (fun _ _ _ _ h => h) (by kernel_rfl) hH rfl (by simp only [skipT, List.setIfInBounds_toArray, List.set_cons_zero, List.set_cons_succ]; rfl) ?_
        refine wpAnyH_take (i := 16) (v := ?_) rfl (by kernel_rfl) (by kernel_rfl) (by kernel_rfl) (fun _ _ _ h => h) (Or.inl ⟨by rfl, ?_⟩) hH ?_
        rotate_left
        · intro w9 hSw; (try dsimp only at hSw); go_simp; try with_reducible rfl
        try simp only [Act.put, List.getElem_toArray, List.getElem_cons_succ, List.getElem_cons_zero, List.setIfInBounds_toArray, List.set_cons_zero, List.set_cons_succ]
        refine wpAnyH_done (by kernel_rfl) ?_ _
        have q := (below_next (below_next (below_drew v0) qa0) qa1)
        clear qa0 qa1
        replace HB := Lib.hid (HB.out.trans (q.mono HB.out.size))
        replace HB2 := Lib.hid (HB2.out.trans (q.mono HB2.out.size))
        go_wp2
        go_ret
        exact ⟨rfl, HB.out⟩
      rcases h2 : bordB wb wd hi x y with _ | _
      rotate_left
      · skip
        have HSB : srcB wb wd hi ⟨x, y, hd, kd, wt, lg, tu, sz, sd⟩ = false := by unfold srcB; simp only [h1, h2]; rfl
        obtain rfl := HStop.out HSB
        have HC1 := Lib.hid h1; clear h1
        have HC2 := Lib.hid h2; clear h2
        clear HSB HNext HStop
        go_upto_region 7 with (fail)
        generalize wr.alloc (.cells #[.int .i64 x, .int .i64 y, .bool hd, .int .i64 kd, .int .i64 wt, .int .i64 lg, .float .f32 tu, .float .f32 sz, .int .i64 sd] 95) = v0 at *
        refine wp_region_held_drew (S := (fun w' : World => (∀ i, w'.cell? ⟨u3.heap.size, i, none⟩ = (#[.int .i64 wd, .int .i64 hi, .bool wb] : Array Value)[i]?) ∧ (∀ i, w'.cell? ⟨wr.heap.size, i, none⟩ = (#[.int .i64 x, .int .i64 y, .bool hd, .int .i64 kd, .int .i64 wt, .int .i64 lg, .float .f32 tu, .float .f32 sz, .int .i64 sd] : Array Value)[i]?) ∧ Below v0.heap.size v0 w')) (by kernel_rfl) (keep2_start Z Y) (fun hH => ?_)
        refine wpAnyH_take (i := 0) (v := ?_) rfl (by kernel_rfl) (by kernel_rfl) (by kernel_rfl) (fun _ _ _ h => h) (Or.inl ⟨by rfl, ?_⟩) hH ?_
        rotate_left
        · intro w9 hSw; (try dsimp only at hSw); go_simp; try with_reducible rfl
        try simp only [Act.put, List.getElem_toArray, List.getElem_cons_succ, List.getElem_cons_zero, List.setIfInBounds_toArray, List.set_cons_zero, List.set_cons_succ]
        refine wpAnyH_take (i := 1) (v := ?_) rfl (by kernel_rfl) (by kernel_rfl) (by kernel_rfl) (fun _ _ _ h => h) (Or.inl ⟨by rfl, ?_⟩) hH ?_
        rotate_left
        · intro w9 hSw; (try dsimp only at hSw); go_simp; try with_reducible rfl
        try simp only [Act.put, List.getElem_toArray, List.getElem_cons_succ, List.getElem_cons_zero, List.setIfInBounds_toArray, List.set_cons_zero, List.set_cons_succ]
        refine wpAnyH_ready (rs := [2]) (by kernel_rfl) (by simp) ?_
        refine AllReadyH.cons (o := _) rfl (fun K hK => ?_) AllReadyH.nil
        go_simp
        (with_reducible refine (sourcePlace _ _ _ _ _ _ _ _ _ _).mono ?_)
        rintro r u101 ⟨rfl, qa0⟩
        refine hK.out _ _ (keep2_later Z Y hH qa0) (fun hH2 => ?_)
        clear hK K hH
        have hH := hH2; clear hH2
        try simp only [Act.put, List.getElem_toArray, List.getElem_cons_succ, List.getElem_cons_zero, List.setIfInBounds_toArray, List.set_cons_zero, List.set_cons_succ]
        refine wpAnyH_ready (rs := [3]) (by kernel_rfl) (by simp) ?_
        refine AllReadyH.cons (o := _) rfl (fun K hK => ?_) AllReadyH.nil
        go_simp
        (with_reducible refine (implHas _ _ _ _ _ _ s1 s2 s3 s4).mono ?_)
        rintro r u102 ⟨rfl, qa1⟩
        refine hK.out _ _ (keep2_later Z Y hH qa1) (fun hH2 => ?_)
        clear hK K hH
        have hH := hH2; clear hH2
        try simp only [Act.put, List.getElem_toArray, List.getElem_cons_succ, List.getElem_cons_zero, List.setIfInBounds_toArray, List.set_cons_zero, List.set_cons_succ]
        rw [HC1.out]
        refine wpAnyH_take (i := 4) (v := ?_) rfl (by kernel_rfl) (by kernel_rfl) (by kernel_rfl) (fun _ _ _ h => h) (Or.inl ⟨by rfl, ?_⟩) hH ?_
        rotate_left
        · intro w9 hSw; (try dsimp only at hSw); go_simp; try with_reducible rfl
        try simp only [Act.put, List.getElem_toArray, List.getElem_cons_succ, List.getElem_cons_zero, List.setIfInBounds_toArray, List.set_cons_zero, List.set_cons_succ]
        refine wpAnyH_take (i := 5) (v := ?_) rfl (by kernel_rfl) (by kernel_rfl) (by kernel_rfl) (fun _ _ _ h => h) (Or.inl ⟨by rfl, ?_⟩) hH ?_
        rotate_left
        · intro w9 hSw; (try dsimp only at hSw); go_simp; try with_reducible rfl
        try simp only [Act.put, List.getElem_toArray, List.getElem_cons_succ, List.getElem_cons_zero, List.setIfInBounds_toArray, List.set_cons_zero, List.set_cons_succ]
        refine wpAnyH_take (i := 6) (v := ?_) rfl (by kernel_rfl) (by kernel_rfl) (by kernel_rfl) (fun _ _ _ h => h) (Or.inl ⟨by rfl, ?_⟩) hH ?_
        rotate_left
        · intro w9 hSw; (try dsimp only at hSw); go_simp; try with_reducible rfl
        try simp only [Act.put, List.getElem_toArray, List.getElem_cons_succ, List.getElem_cons_zero, List.setIfInBounds_toArray, List.set_cons_zero, List.set_cons_succ]
        refine wpAnyH_take (i := 7) (v := ?_) rfl (by kernel_rfl) (by kernel_rfl) (by kernel_rfl) (fun _ _ _ h => h) (Or.inl ⟨by rfl, ?_⟩) hH ?_
        rotate_left
        · intro w9 hSw; (try dsimp only at hSw); go_simp; try with_reducible rfl
        try simp only [Act.put, List.getElem_toArray, List.getElem_cons_succ, List.getElem_cons_zero, List.setIfInBounds_toArray, List.set_cons_zero, List.set_cons_succ]
        refine wpAnyH_ready (rs := [8]) (by kernel_rfl) (by simp) ?_
        refine AllReadyH.cons (o := _) rfl (fun K hK => ?_) AllReadyH.nil
        go_simp
        (with_reducible refine (sourcePlace _ _ _ _ _ _ _ _ _ _).mono ?_)
        rintro r u103 ⟨rfl, qa2⟩
        refine hK.out _ _ (keep2_later Z Y hH qa2) (fun hH2 => ?_)
        clear hK K hH
        have hH := hH2; clear hH2
        try simp only [Act.put, List.getElem_toArray, List.getElem_cons_succ, List.getElem_cons_zero, List.setIfInBounds_toArray, List.set_cons_zero, List.set_cons_succ]
        refine wpAnyH_ready (rs := [9]) (by kernel_rfl) (by simp) ?_
        refine AllReadyH.cons (o := _) rfl (fun K hK => ?_) AllReadyH.nil
        go_simp
        (with_reducible refine (implBorder _ _ _ _ _ _ s1 s2 s3 s4).mono ?_)
        rintro r u104 ⟨rfl, qa3⟩
        refine hK.out _ _ (keep2_later Z Y hH qa3) (fun hH2 => ?_)
        clear hK K hH
        have hH := hH2; clear hH2
        try simp only [Act.put, List.getElem_toArray, List.getElem_cons_succ, List.getElem_cons_zero, List.setIfInBounds_toArray, List.set_cons_zero, List.set_cons_succ]
        rw [HC2.out]
        refine wpAnyH_take (i := 10) (v := ?_) rfl (by kernel_rfl) (by kernel_rfl) (by kernel_rfl) (fun _ _ _ h => h) (Or.inl ⟨by rfl, ?_⟩) hH ?_
        rotate_left
        · intro w9 hSw; (try dsimp only at hSw); go_simp; try with_reducible rfl
        try simp only [Act.put, List.getElem_toArray, List.getElem_cons_succ, List.getElem_cons_zero, List.setIfInBounds_toArray, List.set_cons_zero, List.set_cons_succ]
        refine wpAnyH_take (i := 11) (v := ?_) rfl (by kernel_rfl) (by kernel_rfl) (by kernel_rfl) (fun _ _ _ h => h) (Or.inl ⟨by rfl, ?_⟩) hH ?_
        rotate_left
        · intro w9 hSw; (try dsimp only at hSw); go_simp; try with_reducible rfl
        try simp only [Act.put, List.getElem_toArray, List.getElem_cons_succ, List.getElem_cons_zero, List.setIfInBounds_toArray, List.set_cons_zero, List.set_cons_succ]
        refine wpAnyH_skips_to (is := [12, 13, 14, 15]) (ds := [36, 37, 38, 39]) (by kernel_rfl) (fun _ _ _ _ h => h) (by kernel_rfl) hH rfl (by simp only [skipT, List.setIfInBounds_toArray, List.set_cons_zero, List.set_cons_succ]; rfl) ?_
        refine wpAnyH_take (i := 16) (v := ?_) rfl (by kernel_rfl) (by kernel_rfl) (by kernel_rfl) (fun _ _ _ h => h) (Or.inl ⟨by rfl, ?_⟩) hH ?_
        rotate_left
        · intro w9 hSw; (try dsimp only at hSw); go_simp; try with_reducible rfl
        try simp only [Act.put, List.getElem_toArray, List.getElem_cons_succ, List.getElem_cons_zero, List.setIfInBounds_toArray, List.set_cons_zero, List.set_cons_succ]
        refine wpAnyH_done (by kernel_rfl) ?_ _
        have q := (below_next (below_next (below_next (below_next (below_drew v0) qa0) qa1) qa2) qa3)
        clear qa0 qa1 qa2 qa3
        replace HB := Lib.hid (HB.out.trans (q.mono HB.out.size))
        replace HB2 := Lib.hid (HB2.out.trans (q.mono HB2.out.size))
        go_wp2
        go_ret
        exact ⟨rfl, HB.out⟩
      rcases h3 : waveB kd wt lg tu sd with _ | _
      · skip
        have HSB : srcB wb wd hi ⟨x, y, hd, kd, wt, lg, tu, sz, sd⟩ = false := by unfold srcB; simp only [h1, h2, h3]; rfl
        obtain rfl := HStop.out HSB
        have HC1 := Lib.hid h1; clear h1
        have HC2 := Lib.hid h2; clear h2
        have HC3 := Lib.hid h3; clear h3
        clear HSB HNext HStop
        go_upto_region 7 with (fail)
        generalize wr.alloc (.cells #[.int .i64 x, .int .i64 y, .bool hd, .int .i64 kd, .int .i64 wt, .int .i64 lg, .float .f32 tu, .float .f32 sz, .int .i64 sd] 95) = v0 at *
        refine wp_region_held_drew (S := (fun w' : World => (∀ i, w'.cell? ⟨u3.heap.size, i, none⟩ = (#[.int .i64 wd, .int .i64 hi, .bool wb] : Array Value)[i]?) ∧ (∀ i, w'.cell? ⟨wr.heap.size, i, none⟩ = (#[.int .i64 x, .int .i64 y, .bool hd, .int .i64 kd, .int .i64 wt, .int .i64 lg, .float .f32 tu, .float .f32 sz, .int .i64 sd] : Array Value)[i]?) ∧ Below v0.heap.size v0 w')) (by kernel_rfl) (keep2_start Z Y) (fun hH => ?_)
        refine wpAnyH_take (i := 0) (v := ?_) rfl (by kernel_rfl) (by kernel_rfl) (by kernel_rfl) (fun _ _ _ h => h) (Or.inl ⟨by rfl, ?_⟩) hH ?_
        rotate_left
        · intro w9 hSw; (try dsimp only at hSw); go_simp; try with_reducible rfl
        try simp only [Act.put, List.getElem_toArray, List.getElem_cons_succ, List.getElem_cons_zero, List.setIfInBounds_toArray, List.set_cons_zero, List.set_cons_succ]
        refine wpAnyH_take (i := 1) (v := ?_) rfl (by kernel_rfl) (by kernel_rfl) (by kernel_rfl) (fun _ _ _ h => h) (Or.inl ⟨by rfl, ?_⟩) hH ?_
        rotate_left
        · intro w9 hSw; (try dsimp only at hSw); go_simp; try with_reducible rfl
        try simp only [Act.put, List.getElem_toArray, List.getElem_cons_succ, List.getElem_cons_zero, List.setIfInBounds_toArray, List.set_cons_zero, List.set_cons_succ]
        refine wpAnyH_ready (rs := [2]) (by kernel_rfl) (by simp) ?_
        refine AllReadyH.cons (o := _) rfl (fun K hK => ?_) AllReadyH.nil
        go_simp
        (with_reducible refine (sourcePlace _ _ _ _ _ _ _ _ _ _).mono ?_)
        rintro r u101 ⟨rfl, qa0⟩
        refine hK.out _ _ (keep2_later Z Y hH qa0) (fun hH2 => ?_)
        clear hK K hH
        have hH := hH2; clear hH2
        try simp only [Act.put, List.getElem_toArray, List.getElem_cons_succ, List.getElem_cons_zero, List.setIfInBounds_toArray, List.set_cons_zero, List.set_cons_succ]
        refine wpAnyH_ready (rs := [3]) (by kernel_rfl) (by simp) ?_
        refine AllReadyH.cons (o := _) rfl (fun K hK => ?_) AllReadyH.nil
        go_simp
        (with_reducible refine (implHas _ _ _ _ _ _ s1 s2 s3 s4).mono ?_)
        rintro r u102 ⟨rfl, qa1⟩
        refine hK.out _ _ (keep2_later Z Y hH qa1) (fun hH2 => ?_)
        clear hK K hH
        have hH := hH2; clear hH2
        try simp only [Act.put, List.getElem_toArray, List.getElem_cons_succ, List.getElem_cons_zero, List.setIfInBounds_toArray, List.set_cons_zero, List.set_cons_succ]
        rw [HC1.out]
        refine wpAnyH_take (i := 4) (v := ?_) rfl (by kernel_rfl) (by kernel_rfl) (by kernel_rfl) (fun _ _ _ h => h) (Or.inl ⟨by rfl, ?_⟩) hH ?_
        rotate_left
        · intro w9 hSw; (try dsimp only at hSw); go_simp; try with_reducible rfl
        try simp only [Act.put, List.getElem_toArray, List.getElem_cons_succ, List.getElem_cons_zero, List.setIfInBounds_toArray, List.set_cons_zero, List.set_cons_succ]
        refine wpAnyH_take (i := 5) (v := ?_) rfl (by kernel_rfl) (by kernel_rfl) (by kernel_rfl) (fun _ _ _ h => h) (Or.inl ⟨by rfl, ?_⟩) hH ?_
        rotate_left
        · intro w9 hSw; (try dsimp only at hSw); go_simp; try with_reducible rfl
        try simp only [Act.put, List.getElem_toArray, List.getElem_cons_succ, List.getElem_cons_zero, List.setIfInBounds_toArray, List.set_cons_zero, List.set_cons_succ]
        refine wpAnyH_take (i := 6) (v := ?_) rfl (by kernel_rfl) (by kernel_rfl) (by kernel_rfl) (fun _ _ _ h => h) (Or.inl ⟨by rfl, ?_⟩) hH ?_
        rotate_left
        · intro w9 hSw; (try dsimp only at hSw); go_simp; try with_reducible rfl
        try simp only [Act.put, List.getElem_toArray, List.getElem_cons_succ, List.getElem_cons_zero, List.setIfInBounds_toArray, List.set_cons_zero, List.set_cons_succ]
        refine wpAnyH_take (i := 7) (v := ?_) rfl (by kernel_rfl) (by kernel_rfl) (by kernel_rfl) (fun _ _ _ h => h) (Or.inl ⟨by rfl, ?_⟩) hH ?_
        rotate_left
        · intro w9 hSw; (try dsimp only at hSw); go_simp; try with_reducible rfl
        try simp only [Act.put, List.getElem_toArray, List.getElem_cons_succ, List.getElem_cons_zero, List.setIfInBounds_toArray, List.set_cons_zero, List.set_cons_succ]
        refine wpAnyH_ready (rs := [8]) (by kernel_rfl) (by simp) ?_
        refine AllReadyH.cons (o := _) rfl (fun K hK => ?_) AllReadyH.nil
        go_simp
        (with_reducible refine (sourcePlace _ _ _ _ _ _ _ _ _ _).mono ?_)
        rintro r u103 ⟨rfl, qa2⟩
        refine hK.out _ _ (keep2_later Z Y hH qa2) (fun hH2 => ?_)
        clear hK K hH
        have hH := hH2; clear hH2
        try simp only [Act.put, List.getElem_toArray, List.getElem_cons_succ, List.getElem_cons_zero, List.setIfInBounds_toArray, List.set_cons_zero, List.set_cons_succ]
        refine wpAnyH_ready (rs := [9]) (by kernel_rfl) (by simp) ?_
        refine AllReadyH.cons (o := _) rfl (fun K hK => ?_) AllReadyH.nil
        go_simp
        (with_reducible refine (implBorder _ _ _ _ _ _ s1 s2 s3 s4).mono ?_)
        rintro r u104 ⟨rfl, qa3⟩
        refine hK.out _ _ (keep2_later Z Y hH qa3) (fun hH2 => ?_)
        clear hK K hH
        have hH := hH2; clear hH2
        try simp only [Act.put, List.getElem_toArray, List.getElem_cons_succ, List.getElem_cons_zero, List.setIfInBounds_toArray, List.set_cons_zero, List.set_cons_succ]
        rw [HC2.out]
        refine wpAnyH_take (i := 10) (v := ?_) rfl (by kernel_rfl) (by kernel_rfl) (by kernel_rfl) (fun _ _ _ h => h) (Or.inl ⟨by rfl, ?_⟩) hH ?_
        rotate_left
        · intro w9 hSw; (try dsimp only at hSw); go_simp; try with_reducible rfl
        try simp only [Act.put, List.getElem_toArray, List.getElem_cons_succ, List.getElem_cons_zero, List.setIfInBounds_toArray, List.set_cons_zero, List.set_cons_succ]
        refine wpAnyH_take (i := 11) (v := ?_) rfl (by kernel_rfl) (by kernel_rfl) (by kernel_rfl) (fun _ _ _ h => h) (Or.inl ⟨by rfl, ?_⟩) hH ?_
        rotate_left
        · intro w9 hSw; (try dsimp only at hSw); go_simp; try with_reducible rfl
        try simp only [Act.put, List.getElem_toArray, List.getElem_cons_succ, List.getElem_cons_zero, List.setIfInBounds_toArray, List.set_cons_zero, List.set_cons_succ]
        refine wpAnyH_take (i := 12) (v := ?_) rfl (by kernel_rfl) (by kernel_rfl) (by kernel_rfl) (fun _ _ _ h => h) (Or.inl ⟨by rfl, ?_⟩) hH ?_
        rotate_left
        · intro w9 hSw; (try dsimp only at hSw); go_simp; try with_reducible rfl
        try simp only [Act.put, List.getElem_toArray, List.getElem_cons_succ, List.getElem_cons_zero, List.setIfInBounds_toArray, List.set_cons_zero, List.set_cons_succ]
        refine wpAnyH_take (i := 13) (v := ?_) rfl (by kernel_rfl) (by kernel_rfl) (by kernel_rfl) (fun _ _ _ h => h) (Or.inl ⟨by rfl, ?_⟩) hH ?_
        rotate_left
        · intro w9 hSw; (try dsimp only at hSw); go_simp; try with_reducible rfl
        try simp only [Act.put, List.getElem_toArray, List.getElem_cons_succ, List.getElem_cons_zero, List.setIfInBounds_toArray, List.set_cons_zero, List.set_cons_succ]
        refine wpAnyH_ready (rs := [14]) (by kernel_rfl) (by simp) ?_
        refine AllReadyH.cons (o := _) rfl (fun K hK => ?_) AllReadyH.nil
        go_simp
        (with_reducible refine (implValidWave _ _ _ _ _ _ _ q1).mono ?_)
        rintro r u105 ⟨rfl, qa4⟩
        refine hK.out _ _ (keep2_later Z Y hH qa4) (fun hH2 => ?_)
        clear hK K hH
        have hH := hH2; clear hH2
        try simp only [Act.put, List.getElem_toArray, List.getElem_cons_succ, List.getElem_cons_zero, List.setIfInBounds_toArray, List.set_cons_zero, List.set_cons_succ]
        rw [HC3.out]
        refine wpAnyH_take (i := 15) (v := ?_) rfl (by kernel_rfl) (by kernel_rfl) (by kernel_rfl) (fun _ _ _ h => h) (Or.inl ⟨by rfl, ?_⟩) hH ?_
        rotate_left
        · intro w9 hSw; (try dsimp only at hSw); go_simp; try with_reducible rfl
        try simp only [Act.put, List.getElem_toArray, List.getElem_cons_succ, List.getElem_cons_zero, List.setIfInBounds_toArray, List.set_cons_zero, List.set_cons_succ]
        refine wpAnyH_take (i := 16) (v := ?_) rfl (by kernel_rfl) (by kernel_rfl) (by kernel_rfl) (fun _ _ _ h => h) (Or.inl ⟨by rfl, ?_⟩) hH ?_
        rotate_left
        · intro w9 hSw; (try dsimp only at hSw); go_simp; try with_reducible rfl
        try simp only [Act.put, List.getElem_toArray, List.getElem_cons_succ, List.getElem_cons_zero, List.setIfInBounds_toArray, List.set_cons_zero, List.set_cons_succ]
        refine wpAnyH_done (by kernel_rfl) ?_ _
        have q := (below_next (below_next (below_next (below_next (below_next (below_drew v0) qa0) qa1) qa2) qa3) qa4)
        clear qa0 qa1 qa2 qa3 qa4
        replace HB := Lib.hid (HB.out.trans (q.mono HB.out.size))
        replace HB2 := Lib.hid (HB2.out.trans (q.mono HB2.out.size))
        go_wp2
        go_ret
        exact ⟨rfl, HB.out⟩
      · skip
        have HSB : srcB wb wd hi ⟨x, y, hd, kd, wt, lg, tu, sz, sd⟩ = true := by unfold srcB; simp only [h1, h2, h3]; rfl
        have HN := Lib.hid (HNext.out HSB)
        have HC1 := Lib.hid h1; clear h1
        have HC2 := Lib.hid h2; clear h2
        have HC3 := Lib.hid h3; clear h3
        clear HSB HNext HStop
        go_upto_region 7 with (fail)
        generalize wr.alloc (.cells #[.int .i64 x, .int .i64 y, .bool hd, .int .i64 kd, .int .i64 wt, .int .i64 lg, .float .f32 tu, .float .f32 sz, .int .i64 sd] 95) = v0 at *
        refine wp_region_held_drew (S := (fun w' : World => (∀ i, w'.cell? ⟨u3.heap.size, i, none⟩ = (#[.int .i64 wd, .int .i64 hi, .bool wb] : Array Value)[i]?) ∧ (∀ i, w'.cell? ⟨wr.heap.size, i, none⟩ = (#[.int .i64 x, .int .i64 y, .bool hd, .int .i64 kd, .int .i64 wt, .int .i64 lg, .float .f32 tu, .float .f32 sz, .int .i64 sd] : Array Value)[i]?) ∧ Below v0.heap.size v0 w')) (by kernel_rfl) (keep2_start Z Y) (fun hH => ?_)
        refine wpAnyH_take (i := 0) (v := ?_) rfl (by kernel_rfl) (by kernel_rfl) (by kernel_rfl) (fun _ _ _ h => h) (Or.inl ⟨by rfl, ?_⟩) hH ?_
        rotate_left
        · intro w9 hSw; (try dsimp only at hSw); go_simp; try with_reducible rfl
        try simp only [Act.put, List.getElem_toArray, List.getElem_cons_succ, List.getElem_cons_zero, List.setIfInBounds_toArray, List.set_cons_zero, List.set_cons_succ]
        refine wpAnyH_take (i := 1) (v := ?_) rfl (by kernel_rfl) (by kernel_rfl) (by kernel_rfl) (fun _ _ _ h => h) (Or.inl ⟨by rfl, ?_⟩) hH ?_
        rotate_left
        · intro w9 hSw; (try dsimp only at hSw); go_simp; try with_reducible rfl
        try simp only [Act.put, List.getElem_toArray, List.getElem_cons_succ, List.getElem_cons_zero, List.setIfInBounds_toArray, List.set_cons_zero, List.set_cons_succ]
        refine wpAnyH_ready (rs := [2]) (by kernel_rfl) (by simp) ?_
        refine AllReadyH.cons (o := _) rfl (fun K hK => ?_) AllReadyH.nil
        go_simp
        (with_reducible refine (sourcePlace _ _ _ _ _ _ _ _ _ _).mono ?_)
        rintro r u101 ⟨rfl, qa0⟩
        refine hK.out _ _ (keep2_later Z Y hH qa0) (fun hH2 => ?_)
        clear hK K hH
        have hH := hH2; clear hH2
        try simp only [Act.put, List.getElem_toArray, List.getElem_cons_succ, List.getElem_cons_zero, List.setIfInBounds_toArray, List.set_cons_zero, List.set_cons_succ]
        refine wpAnyH_ready (rs := [3]) (by kernel_rfl) (by simp) ?_
        refine AllReadyH.cons (o := _) rfl (fun K hK => ?_) AllReadyH.nil
        go_simp
        (with_reducible refine (implHas _ _ _ _ _ _ s1 s2 s3 s4).mono ?_)
        rintro r u102 ⟨rfl, qa1⟩
        refine hK.out _ _ (keep2_later Z Y hH qa1) (fun hH2 => ?_)
        clear hK K hH
        have hH := hH2; clear hH2
        try simp only [Act.put, List.getElem_toArray, List.getElem_cons_succ, List.getElem_cons_zero, List.setIfInBounds_toArray, List.set_cons_zero, List.set_cons_succ]
        rw [HC1.out]
        refine wpAnyH_take (i := 4) (v := ?_) rfl (by kernel_rfl) (by kernel_rfl) (by kernel_rfl) (fun _ _ _ h => h) (Or.inl ⟨by rfl, ?_⟩) hH ?_
        rotate_left
        · intro w9 hSw; (try dsimp only at hSw); go_simp; try with_reducible rfl
        try simp only [Act.put, List.getElem_toArray, List.getElem_cons_succ, List.getElem_cons_zero, List.setIfInBounds_toArray, List.set_cons_zero, List.set_cons_succ]
        refine wpAnyH_take (i := 5) (v := ?_) rfl (by kernel_rfl) (by kernel_rfl) (by kernel_rfl) (fun _ _ _ h => h) (Or.inl ⟨by rfl, ?_⟩) hH ?_
        rotate_left
        · intro w9 hSw; (try dsimp only at hSw); go_simp; try with_reducible rfl
        try simp only [Act.put, List.getElem_toArray, List.getElem_cons_succ, List.getElem_cons_zero, List.setIfInBounds_toArray, List.set_cons_zero, List.set_cons_succ]
        refine wpAnyH_take (i := 6) (v := ?_) rfl (by kernel_rfl) (by kernel_rfl) (by kernel_rfl) (fun _ _ _ h => h) (Or.inl ⟨by rfl, ?_⟩) hH ?_
        rotate_left
        · intro w9 hSw; (try dsimp only at hSw); go_simp; try with_reducible rfl
        try simp only [Act.put, List.getElem_toArray, List.getElem_cons_succ, List.getElem_cons_zero, List.setIfInBounds_toArray, List.set_cons_zero, List.set_cons_succ]
        refine wpAnyH_take (i := 7) (v := ?_) rfl (by kernel_rfl) (by kernel_rfl) (by kernel_rfl) (fun _ _ _ h => h) (Or.inl ⟨by rfl, ?_⟩) hH ?_
        rotate_left
        · intro w9 hSw; (try dsimp only at hSw); go_simp; try with_reducible rfl
        try simp only [Act.put, List.getElem_toArray, List.getElem_cons_succ, List.getElem_cons_zero, List.setIfInBounds_toArray, List.set_cons_zero, List.set_cons_succ]
        refine wpAnyH_ready (rs := [8]) (by kernel_rfl) (by simp) ?_
        refine AllReadyH.cons (o := _) rfl (fun K hK => ?_) AllReadyH.nil
        go_simp
        (with_reducible refine (sourcePlace _ _ _ _ _ _ _ _ _ _).mono ?_)
        rintro r u103 ⟨rfl, qa2⟩
        refine hK.out _ _ (keep2_later Z Y hH qa2) (fun hH2 => ?_)
        clear hK K hH
        have hH := hH2; clear hH2
        try simp only [Act.put, List.getElem_toArray, List.getElem_cons_succ, List.getElem_cons_zero, List.setIfInBounds_toArray, List.set_cons_zero, List.set_cons_succ]
        refine wpAnyH_ready (rs := [9]) (by kernel_rfl) (by simp) ?_
        refine AllReadyH.cons (o := _) rfl (fun K hK => ?_) AllReadyH.nil
        go_simp
        (with_reducible refine (implBorder _ _ _ _ _ _ s1 s2 s3 s4).mono ?_)
        rintro r u104 ⟨rfl, qa3⟩
        refine hK.out _ _ (keep2_later Z Y hH qa3) (fun hH2 => ?_)
        clear hK K hH
        have hH := hH2; clear hH2
        try simp only [Act.put, List.getElem_toArray, List.getElem_cons_succ, List.getElem_cons_zero, List.setIfInBounds_toArray, List.set_cons_zero, List.set_cons_succ]
        rw [HC2.out]
        refine wpAnyH_take (i := 10) (v := ?_) rfl (by kernel_rfl) (by kernel_rfl) (by kernel_rfl) (fun _ _ _ h => h) (Or.inl ⟨by rfl, ?_⟩) hH ?_
        rotate_left
        · intro w9 hSw; (try dsimp only at hSw); go_simp; try with_reducible rfl
        try simp only [Act.put, List.getElem_toArray, List.getElem_cons_succ, List.getElem_cons_zero, List.setIfInBounds_toArray, List.set_cons_zero, List.set_cons_succ]
        refine wpAnyH_take (i := 11) (v := ?_) rfl (by kernel_rfl) (by kernel_rfl) (by kernel_rfl) (fun _ _ _ h => h) (Or.inl ⟨by rfl, ?_⟩) hH ?_
        rotate_left
        · intro w9 hSw; (try dsimp only at hSw); go_simp; try with_reducible rfl
        try simp only [Act.put, List.getElem_toArray, List.getElem_cons_succ, List.getElem_cons_zero, List.setIfInBounds_toArray, List.set_cons_zero, List.set_cons_succ]
        refine wpAnyH_take (i := 12) (v := ?_) rfl (by kernel_rfl) (by kernel_rfl) (by kernel_rfl) (fun _ _ _ h => h) (Or.inl ⟨by rfl, ?_⟩) hH ?_
        rotate_left
        · intro w9 hSw; (try dsimp only at hSw); go_simp; try with_reducible rfl
        try simp only [Act.put, List.getElem_toArray, List.getElem_cons_succ, List.getElem_cons_zero, List.setIfInBounds_toArray, List.set_cons_zero, List.set_cons_succ]
        refine wpAnyH_take (i := 13) (v := ?_) rfl (by kernel_rfl) (by kernel_rfl) (by kernel_rfl) (fun _ _ _ h => h) (Or.inl ⟨by rfl, ?_⟩) hH ?_
        rotate_left
        · intro w9 hSw; (try dsimp only at hSw); go_simp; try with_reducible rfl
        try simp only [Act.put, List.getElem_toArray, List.getElem_cons_succ, List.getElem_cons_zero, List.setIfInBounds_toArray, List.set_cons_zero, List.set_cons_succ]
        refine wpAnyH_ready (rs := [14]) (by kernel_rfl) (by simp) ?_
        refine AllReadyH.cons (o := _) rfl (fun K hK => ?_) AllReadyH.nil
        go_simp
        (with_reducible refine (implValidWave _ _ _ _ _ _ _ q1).mono ?_)
        rintro r u105 ⟨rfl, qa4⟩
        refine hK.out _ _ (keep2_later Z Y hH qa4) (fun hH2 => ?_)
        clear hK K hH
        have hH := hH2; clear hH2
        try simp only [Act.put, List.getElem_toArray, List.getElem_cons_succ, List.getElem_cons_zero, List.setIfInBounds_toArray, List.set_cons_zero, List.set_cons_succ]
        rw [HC3.out]
        refine wpAnyH_take (i := 15) (v := ?_) rfl (by kernel_rfl) (by kernel_rfl) (by kernel_rfl) (fun _ _ _ h => h) (Or.inl ⟨by rfl, ?_⟩) hH ?_
        rotate_left
        · intro w9 hSw; (try dsimp only at hSw); go_simp; try with_reducible rfl
        try simp only [Act.put, List.getElem_toArray, List.getElem_cons_succ, List.getElem_cons_zero, List.setIfInBounds_toArray, List.set_cons_zero, List.set_cons_succ]
        refine wpAnyH_take (i := 16) (v := ?_) rfl (by kernel_rfl) (by kernel_rfl) (by kernel_rfl) (fun _ _ _ h => h) (Or.inl ⟨by rfl, ?_⟩) hH ?_
        rotate_left
        · intro w9 hSw; (try dsimp only at hSw); go_simp; try with_reducible rfl
        try simp only [Act.put, List.getElem_toArray, List.getElem_cons_succ, List.getElem_cons_zero, List.setIfInBounds_toArray, List.set_cons_zero, List.set_cons_succ]
        refine wpAnyH_done (by kernel_rfl) ?_ _
        have q := (below_next (below_next (below_next (below_next (below_next (below_drew v0) qa0) qa1) qa2) qa3) qa4)
        clear qa0 qa1 qa2 qa3 qa4
        replace HB := Lib.hid (HB.out.trans (q.mono HB.out.size))
        replace HB2 := Lib.hid (HB2.out.trans (q.mono HB2.out.size))
        go_wp2
        go_roundw
        case rel => exact ⟨k + 1, by omega, by go_num, HN.out, HB2.out⟩
        case measure => simp [intOf]; omega
    · skip
      obtain rfl : k = n := by omega
      obtain rfl := HT.out (fun j hj => HA.out j hj (by rw [← HL.out]; exact hj))
      go_wp2
      go_ret
      exact ⟨rfl, HB.out⟩

end Go.Proofs.Ytkcododhfliobaa

end

section

namespace Go.Proofs.Ytkcododhfliobaa
open Go Ieee Go.RowKit Go.Deep Go.ChangeShapes Go.WideShapes
set_option linter.unusedVariables false

set_option maxRecDepth 100000 in
theorem open_SourceS {H : Type} {enc : TypeId × Value → H} {W : World} {base : Nat} {spare : Nat → Bool} {held : Bool} {a : Option Addr} {len cap : Nat} {d : DataW H} {ps : List MemPlace} (h : DataW.Trod enc Try.prog W base spare held 48 (.slice a len cap) d ps) :
    ∃ xs : List Src, len = xs.length ∧ RowV W a (svals xs) ∧ (∀ s ∈ xs, Src.ok s) ∧ len ≤ maxLen := by
  have hC : Try.prog.cellsOf 98 = 9 := by kernel_rfl
  have hD : Try.prog.cellsOf 24 = 6 := by kernel_rfl
  obtain ⟨fuel, hf⟩ := h
  rcases Deep.open_slice Try.underlying48 hf with ⟨hcs, _⟩ | ⟨x, l, c, m, n, D, Pl, hcs, _, hl, hm, hmm, _, hx⟩
  · simp [Value.cells] at hcs
    obtain ⟨rfl, rfl, rfl⟩ := hcs
    exact ⟨[], rfl, (fun i u hu => by simp [svals] at hu), (fun s hs => by cases hs), (by unfold maxLen; omega)⟩
  · simp [Value.cells] at hcs
    obtain ⟨rfl, rfl, rfl⟩ := hcs
    have hlm : len ≤ m := by rw [hmm]; split <;> omega
    have each : ∀ i, i < len → ∃ s : Src, s.ok ∧ ∀ j, j < 9 → W.cell? ((x.add (i * 9)).add j) = s.cells[j]? := fun i hi => by
      obtain ⟨cs', h1, h2⟩ := hx i (by omega)
      rw [hC] at h1
      obtain ⟨_, hlen, hc⟩ := World.cells?_some h1
      obtain ⟨ys, n9, _, _, _, hyl, hff⟩ := DataW.trod_struct Try.underlying98 h2
      have hyl4 : ys.length = 4 := hyl
      match cs', hlen with
      | [z0, z1, z2, z3, z4, z5, z6, z7, z8], _ =>
        have ci : Try.prog.cellsOf 2 = 1 := by kernel_rfl
        have cb : Try.prog.cellsOf 4 = 1 := by kernel_rfl
        have g0 := hff 0 _ rfl
        have g1 := hff 1 _ rfl
        have g2 := hff 2 _ rfl
        have g3 := hff 3 _ rfl
        simp only [List.getElem_toArray, List.getElem_cons_zero, List.getElem_cons_succ, ci, cb, hD, List.drop_zero, List.drop_succ_cons, List.take_succ_cons, List.take_zero, List.take_nil] at g0 g1 g2 g3
        rw [List.getElem?_eq_getElem (by omega)] at g0 g1 g2 g3
        obtain ⟨x, rfl, _⟩ := int_field Try.underlying2 g0
        obtain ⟨y, rfl, _⟩ := int_field Try.underlying2 g1
        obtain ⟨hd, rfl⟩ := bool_field Try.underlying4 g2
        obtain ⟨v0, y0, n0, e0, t0⟩ := field_trod Try.underlying24 (by kernel_rfl) hD g3 0 _ rfl
        obtain ⟨v1, y1, n1, e1, t1⟩ := field_trod Try.underlying24 (by kernel_rfl) hD g3 1 _ rfl
        obtain ⟨v2, y2, n2, e2, t2⟩ := field_trod Try.underlying24 (by kernel_rfl) hD g3 2 _ rfl
        obtain ⟨v3, y3, n3, e3, t3⟩ := field_trod Try.underlying24 (by kernel_rfl) hD g3 3 _ rfl
        obtain ⟨v4, y4, n4, e4, t4⟩ := field_trod Try.underlying24 (by kernel_rfl) hD g3 4 _ rfl
        obtain ⟨v5, y5, n5, e5, t5⟩ := field_trod Try.underlying24 (by kernel_rfl) hD g3 5 _ rfl
        cases e0
        cases e1
        cases e2
        cases e3
        cases e4
        cases e5
        obtain ⟨kd, rfl, _⟩ := int_field Try.underlying2 t0
        obtain ⟨wt, rfl, _⟩ := int_field Try.underlying2 t1
        obtain ⟨lg, rfl, _⟩ := int_field Try.underlying2 t2
        obtain ⟨tu, rfl, b3⟩ := f32_field t3
        obtain ⟨sz, rfl, b4⟩ := f32_field t4
        obtain ⟨sd, rfl, _⟩ := int_field Try.underlying2 t5
        exact ⟨⟨x, y, hd, kd, wt, lg, tu, sz, sd⟩, ⟨b3, b4⟩, fun j hj => hc j hj⟩
    obtain ⟨f, hf'⟩ := Deep.choose_lt each
    refine ⟨(List.range len).map f, (by simp), ?_, ?_, (by omega)⟩
    · intro i u hu
      have hi : i < len * 9 := by
        have := (List.getElem?_eq_some_iff.1 hu).1
        rw [svals_length] at this; simpa using this
      have hk : i / 9 < len := by omega
      obtain ⟨b, off, spot⟩ := x
      have h00 := (hf' 0 (by omega)).2 0 (by omega)
      have hs : spot = none := by simpa [Addr.add] using World.cell?_spot h00
      subst hs
      have hg := svals_get (ss := (List.range len).map f) (k := i / 9) (by simpa using hk) (i % 9) (Nat.mod_lt _ (by decide))
      have g0 := (hf' (i / 9) hk).2 (i % 9) (Nat.mod_lt _ (by decide))
      rw [addr_add, addr_add] at g0
      simp only [List.getElem_map, List.getElem_range] at hg
      have ei : i / 9 * 9 + i % 9 = i := by omega
      rw [ei] at hg
      rw [Nat.add_assoc, ei, ← hg] at g0
      exact ⟨b, off, rfl, g0.trans hu⟩
    · intro s hs
      obtain ⟨i, hi, rfl⟩ := List.mem_map.1 hs
      exact (hf' i (List.mem_range.1 hi)).1

end Go.Proofs.Ytkcododhfliobaa

end
