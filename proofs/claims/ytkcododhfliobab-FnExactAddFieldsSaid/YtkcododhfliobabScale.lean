/- Fields times a number: the program's answer and the model's. Conditions: none beyond those of each theorem. -/
import Derived.Test.YtkcododhfliobabBu5
import Derived.Test.YtkcododhfliobabBu7
import Derived.Test.YtkcododhfliobabBu13
namespace Go.Proofs.Ytkcododhfliobab
open Go Ieee Go.RowKit
set_option linter.unusedVariables false

theorem mulN (x y : Nat) (w : World) : Calls Try.prog 116 #[.float .f32 x, .float .f32 y] w fun e w' => ∃ v n, e = .returned (.float .f32 v) ∧ w' = w.drewN n ∧ canon .f32 v = fop .mul .f32 (canon .f32 x) (canon .f32 y) ∧ v < 2 ^ 32 := by
  go_enter Try.func116, Try.ntmps116
  go_wp2_with (refine wpList_arith rfl _ _ _ _ _ rfl rfl .f32 _ _ rfl rfl ?_; intro v q hc hv; have HC := Lib.hid hc; clear hc)
  go_ret
  exact ⟨v, _, rfl, rfl, HC.out, hv⟩

def ifO (b : Bool) (m : List (Option Nat)) : List (Option Nat) := if b then m else []
def mulC (xs : List Nat) (by_ : Nat) : List (Option Nat) := xs.map fun x => fop .mul .f32 (canon .f32 x) (canon .f32 by_)
/-- some bits for each number -/
def repC (m : List (Option Nat)) : List Nat := m.map fun x => x.getD 2143289344

theorem nzB_canon {x y : Nat} (h : canon .f32 x = canon .f32 y) : nzB x = nzB y := by
  unfold nzB; rw [order_canon, order_canon .f32 y 0, h]

theorem rep_canon {x : Nat} {o : Option Nat} (h : canon .f32 x = o) : canon .f32 (o.getD 2143289344) = o := by
  cases o with
  | none => decide
  | some a =>
    obtain ⟨rfl, hn⟩ := canon_some h
    exact h

theorem zin_is {p : Int → Int → Bool} {wd : Int} {y : List Nat} {m : List (Option Nat)} (h : Is y m) : zin p wd y = zin p wd (repC m) := by
  have hl : y.length = (repC m).length := by unfold repC; rw [List.length_map, ← h.eq, cl_length]
  unfold zin
  rw [← hl]
  have hcong : ∀ (l : List Nat) (f g : Nat → Bool), (∀ i ∈ l, f i = g i) → l.all f = l.all g := fun l f g hfg => by
    induction l with
    | nil => rfl
    | cons a l ih => rw [List.all_cons, List.all_cons, hfg a (by simp), ih (fun i hi => hfg i (by simp [hi]))]
  apply hcong
  intro i hi
  have hi' : i < y.length := List.mem_range.1 hi
  have e : nzB (y.getD i 0) = nzB ((repC m).getD i 0) := by
    apply nzB_canon
    rw [getD_get hi', getD_get (show i < (repC m).length by omega)]
    have hm : m[i]? = some (canon .f32 y[i]) := by rw [← h.eq]; unfold cl; rw [List.getElem?_map, List.getElem?_eq_getElem hi']; rfl
    have hm2 : i < m.length := (List.getElem?_eq_some_iff.1 hm).1
    have hm3 : m[i] = canon .f32 y[i] := by rw [List.getElem?_eq_getElem hm2] at hm; injection hm
    unfold repC
    rw [List.getElem_map, hm3]
    exact (rep_canon rfl).symm
  rw [e]

theorem fits_is {wd hi : Int} {wb : Bool} {e x y : List Nat} {m0 m1 m2 : List (Option Nat)} (h0 : Is e m0) (h1 : Is x m1) (h2 : Is y m2) : fitsB wd hi wb e x y = fitsB wd hi wb (repC m0) (repC m1) (repC m2) := by
  have l : ∀ {y : List Nat} {m : List (Option Nat)}, Is y m → (repC m).length = y.length := fun h => by unfold repC; rw [List.length_map, ← h.eq, cl_length]
  unfold fitsB
  rw [l h0, l h1, l h2, zin_is h0, zin_is h1, zin_is h2]

/-- what a list is behind k products -/
def MulTo (xs : List Nat) (by_ : Nat) (k : Nat) (L : List Nat) : Prop := L.length = xs.length ∧ (∀ z ∈ L, z < 2 ^ 32) ∧ ∀ j (h : j < L.length) (h' : j < xs.length), j < k → canon .f32 L[j] = fop .mul .f32 (canon .f32 xs[j]) (canon .f32 by_)

theorem mulTo_next {xs : List Nat} {by_ k : Nat} {L : List Nat} {v : Nat} (h : MulTo xs by_ k L) (hk : k < xs.length) (hv : v < 2 ^ 32) (hc : canon .f32 v = fop .mul .f32 (canon .f32 xs[k]) (canon .f32 by_)) : MulTo xs by_ (k + 1) (L.set k v) := by
  obtain ⟨h1, h2, h3⟩ := h
  refine ⟨by rw [List.length_set]; exact h1, fun z hz => ?_, fun j hj hj' hjk => ?_⟩
  · rcases List.mem_or_eq_of_mem_set hz with h' | h'
    · exact h2 _ h'
    · rw [h']; exact hv
  · rw [List.getElem_set]
    split
    · rename_i e; subst e; exact hc
    · exact h3 j (by rw [List.length_set] at hj; exact hj) hj' (by omega)

theorem mulTo_all {xs : List Nat} {by_ k : Nat} {L : List Nat} (h : MulTo xs by_ k L) (hk : xs.length ≤ k) (hf : xs.length ≤ 256) : Is L (mulC xs by_) := by
  obtain ⟨h1, h2, h3⟩ := h
  refine ⟨?_, h2, by omega⟩
  apply List.ext_getElem
  · unfold cl mulC; rw [List.length_map, List.length_map, h1]
  · intro i hi hi'
    unfold cl mulC at *
    rw [List.getElem_map, List.getElem_map]
    exact h3 i (by simpa using hi) (by simpa using hi') (by rw [List.length_map] at hi'; omega)

set_option maxHeartbeats 2000000 in
theorem implScaleList (a : Option Addr) (ca : Nat) (xs : List Nat) (by_ : Nat) (w : World) (ha : RowV w a (fvals xs)) (hn : xs.length ≤ 256) :
    Calls Try.prog 78 #[.slice a xs.length ca, .float .f32 by_] w fun e w' => ∃ g L, e = .returned (.slice (some ⟨g, 0, none⟩) L.length L.length) ∧ OwnV w' w.heap.size (some ⟨g, 0, none⟩) (fvals L) ∧ Is L (mulC xs by_) ∧ Below w.heap.size w w' := by
  obtain ⟨i0, hi, hz0, hz1, hz2⟩ := info_parts Try.infoF32
  have HT : Hid (∀ L, MulTo xs by_ xs.length L → Is L (mulC xs by_)) := Lib.hid (fun L h => mulTo_all h (Nat.le_refl _) hn)
  have hstart : MulTo xs by_ 0 (List.replicate xs.length 0) := ⟨by simp, fun z hz => by rw [(List.mem_replicate.1 hz).2]; decide, fun j _ _ h => by omega⟩
  generalize hlen : xs.length = n at hn hstart ⊢
  have HL := Lib.hid hlen
  rw [hlen] at HT
  clear hlen
  have hn1 : (n : Int) ≤ 256 := by omega
  have hbytes : i0.bytes * n ≤ 281474976710656 := by rw [hz2]; omega
  have HI := Lib.hid hi
  have HZ0 := Lib.hid hz0
  have HZ1 := Lib.hid hz1
  clear hi hz0 hz1 hz2
  go_enter Try.func78, Try.ntmps78
  go_wp2_with (at_make; refine wpList_make_full _ rfl _ _ 22 rfl w.heap.size 40 i0 (.float .f32 0) 1 Try.underlying22 HI.out HZ0.out HZ1.out .i64 .i64 _ _ n rfl rfl rfl rfl hbytes (by unfold maxLen; omega) (Nat.le_refl _) ?_; intro w1 hown hgrow)
  have hown' : OwnV w1 w.heap.size (some ⟨w.heap.size, 0, none⟩) (fvals (List.replicate n 0)) := by
    have h2 := OwnV.of_owned hown
    rw [show (Value.float FloatKind.f32 0).cells = #[.float .f32 0] from rfl, Nat.mul_one, toList_madeCells_one] at h2
    unfold fvals; rw [List.map_replicate]; exact h2
  have hbel : Below w.heap.size w w1 := (Below.refl w.heap.size w).grown hgrow (Nat.le_refl _) (fun k hk => by cases hk)
  clear hown hgrow
  have HST := Lib.hid hstart; clear hstart
  go_wp2
  go_loopw [6, 7, 13] (fun _ _ i wr => ∃ (k : Nat) (L : List Nat), k ≤ n ∧ i = .int .i64 k ∧ MulTo xs by_ k L ∧ OwnV wr w.heap.size (some ⟨w.heap.size, 0, none⟩) (fvals L) ∧ Below w.heap.size w wr) (fun _ _ i _ => n - (intOf i).toNat)
  case atStart => exact ⟨0, _, Nat.zero_le _, rfl, HST.out, hown', hbel⟩
  case round =>
    obtain ⟨k, L, hk, rfl, hM, hown, hb⟩ := hrel
    have HO := Lib.hid hown
    have HW := Lib.hid hb
    have HM := Lib.hid hM
    clear hown hb hown' hbel hM
    by_cases hlt : k < n
    · have k1 : k < xs.length := by rw [HL.out]; exact hlt
      have kL : k < L.length := by rw [HM.out.1]; exact k1
      obtain ⟨b, off, rfl, hc⟩ := ha k _ (fvals_get k1)
      have hc2 : wr.cell? ⟨b, off + k, none⟩ = some (.float .f32 xs[k]) := by
        rw [Below.cell HW.out (p := ⟨b, off + k, none⟩) (lt_of_cell hc)]; exact hc
      have hki : ((k : Nat) : Int) < (n : Int) := by omega
      clear hc
      have HNX := Lib.hid (fun v hv hcv => mulTo_next (v := v) HM.out k1 hv hcv)
      generalize xs[k] = x at *
      go_wp2_with fail
      refine (mulN _ _ _).mono ?_
      rintro e w2 ⟨v, nq, rfl, hw, hcv, hv⟩
      have HN2 := Lib.hid (HNX.out v hv hcv); clear hcv HNX
      have q : Below wr.heap.size wr w2 := by rw [hw]; exact below_drewN (Below.refl _ _) _
      clear hw
      replace HO := Lib.hid (HO.out.later q)
      replace HW := Lib.hid (HW.out.trans (q.mono HW.out.size))
      clear hc2 q
      obtain ⟨cs, tt, _, hblk, hvv⟩ := own_some HO.out
      obtain ⟨gc, gf⟩ := hblk.open
      have f0 : w2.cell? ⟨w.heap.size, k, none⟩ = some _ := (gc _).trans (hvv k _ (fvals_get kL))
      have GF := Lib.hid gf
      clear gc hvv hblk
      have hp := own_put HO.out k (.float .f32 v) (by rw [fvals_length]; exact kL)
      rw [fvals_set] at hp
      have HP := Lib.hid hp; clear hp
      go_wp2
      go_roundw
      case rel => exact ⟨k + 1, _, by omega, by go_num, HN2.out, HP.out, HW.out.setCell (p := ⟨w.heap.size, k, none⟩) (Nat.le_refl _) _⟩
      case measure => simp [intOf]; omega
    · obtain rfl : k = n := by omega
      go_wp2
      go_ret
      have hLk : L.length = k := by rw [HM.out.1, HL.out]
      exact ⟨_, L, by rw [hLk]; rfl, HO.out, HT.out L HM.out, HW.out⟩

set_option maxHeartbeats 4000000 in
set_option maxRecDepth 100000 in
theorem implIfFieldYes (wd hi : Int) (wb : Bool) (a b : Option Addr) (ca cb : Nat) (xs ys : List Nat) (a0 a1 a2 : Option Addr) (c0 c1 c2 : Nat) (e x y : List Nat) (w : World) (ha : RowV w a (fvals xs)) (hb : RowV w b (fvals ys)) (hx : xs.length ≤ maxLen) (hy : ys.length ≤ maxLen) (h0 : RowV w a0 (fvals e)) (h1 : RowV w a1 (fvals x)) (h2 : RowV w a2 (fvals y)) (m0 : e.length ≤ maxLen) (m1 : x.length ≤ maxLen) (m2 : y.length ≤ maxLen) (hfb : fieldB wd hi wb xs ys e x y = true) :
    Calls Try.prog 75 #[.agg #[.int .i64 wd, .int .i64 hi, .bool wb, .slice a xs.length ca, .slice b ys.length cb], .agg #[.slice a0 e.length c0, .slice a1 x.length c1, .slice a2 y.length c2]] w fun r w' => r = .returned (.tuple #[.agg #[.slice a0 e.length c0, .slice a1 x.length c1, .slice a2 y.length c2], .bool true]) ∧ Below w.heap.size w w' := by
  have HFB := Lib.hid hfb; clear hfb
  have X := Blk.new w #[.int .i64 wd, .int .i64 hi, .bool wb, .slice a xs.length ca, .slice b ys.length cb] 32
  have Y := Blk.new1 w (.cells #[.int .i64 wd, .int .i64 hi, .bool wb, .slice a xs.length ca, .slice b ys.length cb] 32) #[.slice a0 e.length c0, .slice a1 x.length c1, .slice a2 y.length c2] 29
  replace X := X.alloc (.cells #[.slice a0 e.length c0, .slice a1 x.length c1, .slice a2 y.length c2] 29)
  have R := Blk.new2 w (.cells #[.int .i64 wd, .int .i64 hi, .bool wb, .slice a xs.length ca, .slice b ys.length cb] 32) (.cells #[.slice a0 e.length c0, .slice a1 x.length c1, .slice a2 y.length c2] 29) #[.slice none 0 0, .slice none 0 0, .slice none 0 0] 29
  replace X := X.alloc (.cells #[.slice none 0 0, .slice none 0 0, .slice none 0 0] 29)
  replace Y := Y.alloc (.cells #[.slice none 0 0, .slice none 0 0, .slice none 0 0] 29)
  have HB : Hid (Below w.heap.size w (((w.alloc (.cells #[.int .i64 wd, .int .i64 hi, .bool wb, .slice a xs.length ca, .slice b ys.length cb] 32)).alloc (.cells #[.slice a0 e.length c0, .slice a1 x.length c1, .slice a2 y.length c2] 29)).alloc (.cells #[.slice none 0 0, .slice none 0 0, .slice none 0 0] 29))) := Lib.hid ((((Below.refl w.heap.size w).alloc (by simp <;> omega) _).alloc (by simp <;> omega) _).alloc (by simp <;> omega) _)
  go_enter Try.func75, Try.ntmps75
  go_wp2_with fail
  generalize (((w.alloc (.cells #[.int .i64 wd, .int .i64 hi, .bool wb, .slice a xs.length ca, .slice b ys.length cb] 32)).alloc (.cells #[.slice a0 e.length c0, .slice a1 x.length c1, .slice a2 y.length c2] 29)).alloc (.cells #[.slice none 0 0, .slice none 0 0, .slice none 0 0] 29)) = u1 at *
  refine (implIsField _ _ _ _ _ _ _ _ _ _ _ _ _ _ _ _ _ _ _ (ha.later HB.out) (hb.later HB.out) hx hy (h0.later HB.out) (h1.later HB.out) (h2.later HB.out) m0 m1 m2).mono ?_
  rintro r u2 ⟨rfl, q⟩
  replace X := X.later q
  replace Y := Y.later q
  replace R := R.later q
  replace HB := Lib.hid (HB.out.trans (q.mono HB.out.size))
  clear q
  rw [HFB.out]
  obtain ⟨Yc, Yf⟩ := Y.open
  obtain ⟨Rc, Rf⟩ := R.open
  go_wp2
  exact bodyPost_ret (v := .tuple #[.agg #[.slice a0 e.length c0, .slice a1 x.length c1, .slice a2 y.length c2], .bool true]) (by simp [results, Try.results75, go_sem, Rc]) rfl ⟨rfl, (((HB.out.setCell (p := ⟨w.heap.size + 1 + 1, 0, none⟩) (by simp <;> omega) _).setCell (p := ⟨w.heap.size + 1 + 1, 1, none⟩) (by simp <;> omega) _).setCell (p := ⟨w.heap.size + 1 + 1, 2, none⟩) (by simp <;> omega) _)⟩

set_option maxHeartbeats 4000000 in
set_option maxRecDepth 100000 in
theorem implIfFieldNo (wd hi : Int) (wb : Bool) (a b : Option Addr) (ca cb : Nat) (xs ys : List Nat) (a0 a1 a2 : Option Addr) (c0 c1 c2 : Nat) (e x y : List Nat) (w : World) (ha : RowV w a (fvals xs)) (hb : RowV w b (fvals ys)) (hx : xs.length ≤ maxLen) (hy : ys.length ≤ maxLen) (h0 : RowV w a0 (fvals e)) (h1 : RowV w a1 (fvals x)) (h2 : RowV w a2 (fvals y)) (m0 : e.length ≤ maxLen) (m1 : x.length ≤ maxLen) (m2 : y.length ≤ maxLen) (hfb : fieldB wd hi wb xs ys e x y = false) :
    Calls Try.prog 75 #[.agg #[.int .i64 wd, .int .i64 hi, .bool wb, .slice a xs.length ca, .slice b ys.length cb], .agg #[.slice a0 e.length c0, .slice a1 x.length c1, .slice a2 y.length c2]] w fun r w' => r = .returned (.tuple #[.agg #[.slice none 0 0, .slice none 0 0, .slice none 0 0], .bool false]) ∧ Below w.heap.size w w' := by
  have HFB := Lib.hid hfb; clear hfb
  have X := Blk.new w #[.int .i64 wd, .int .i64 hi, .bool wb, .slice a xs.length ca, .slice b ys.length cb] 32
  have Y := Blk.new1 w (.cells #[.int .i64 wd, .int .i64 hi, .bool wb, .slice a xs.length ca, .slice b ys.length cb] 32) #[.slice a0 e.length c0, .slice a1 x.length c1, .slice a2 y.length c2] 29
  replace X := X.alloc (.cells #[.slice a0 e.length c0, .slice a1 x.length c1, .slice a2 y.length c2] 29)
  have R := Blk.new2 w (.cells #[.int .i64 wd, .int .i64 hi, .bool wb, .slice a xs.length ca, .slice b ys.length cb] 32) (.cells #[.slice a0 e.length c0, .slice a1 x.length c1, .slice a2 y.length c2] 29) #[.slice none 0 0, .slice none 0 0, .slice none 0 0] 29
  replace X := X.alloc (.cells #[.slice none 0 0, .slice none 0 0, .slice none 0 0] 29)
  replace Y := Y.alloc (.cells #[.slice none 0 0, .slice none 0 0, .slice none 0 0] 29)
  have HB : Hid (Below w.heap.size w (((w.alloc (.cells #[.int .i64 wd, .int .i64 hi, .bool wb, .slice a xs.length ca, .slice b ys.length cb] 32)).alloc (.cells #[.slice a0 e.length c0, .slice a1 x.length c1, .slice a2 y.length c2] 29)).alloc (.cells #[.slice none 0 0, .slice none 0 0, .slice none 0 0] 29))) := Lib.hid ((((Below.refl w.heap.size w).alloc (by simp <;> omega) _).alloc (by simp <;> omega) _).alloc (by simp <;> omega) _)
  go_enter Try.func75, Try.ntmps75
  go_wp2_with fail
  generalize (((w.alloc (.cells #[.int .i64 wd, .int .i64 hi, .bool wb, .slice a xs.length ca, .slice b ys.length cb] 32)).alloc (.cells #[.slice a0 e.length c0, .slice a1 x.length c1, .slice a2 y.length c2] 29)).alloc (.cells #[.slice none 0 0, .slice none 0 0, .slice none 0 0] 29)) = u1 at *
  refine (implIsField _ _ _ _ _ _ _ _ _ _ _ _ _ _ _ _ _ _ _ (ha.later HB.out) (hb.later HB.out) hx hy (h0.later HB.out) (h1.later HB.out) (h2.later HB.out) m0 m1 m2).mono ?_
  rintro r u2 ⟨rfl, q⟩
  replace X := X.later q
  replace Y := Y.later q
  replace R := R.later q
  replace HB := Lib.hid (HB.out.trans (q.mono HB.out.size))
  clear q
  rw [HFB.out]
  obtain ⟨Yc, Yf⟩ := Y.open
  obtain ⟨Rc, Rf⟩ := R.open
  go_wp2
  exact bodyPost_ret (v := .tuple #[.agg #[.slice none 0 0, .slice none 0 0, .slice none 0 0], .bool false]) (by simp [results, Try.results75, go_sem, Rc]) rfl ⟨rfl, (((HB.out.setCell (p := ⟨w.heap.size + 1 + 1, 0, none⟩) (by simp <;> omega) _).setCell (p := ⟨w.heap.size + 1 + 1, 1, none⟩) (by simp <;> omega) _).setCell (p := ⟨w.heap.size + 1 + 1, 2, none⟩) (by simp <;> omega) _)⟩

def scaleB (wd hi : Int) (wb : Bool) (xs ys e x y : List Nat) (by_ : Nat) : Bool := fieldB wd hi wb xs ys e x y && fitsB wd hi wb (repC (mulC e by_)) (repC (mulC x by_)) (repC (mulC y by_))

def GaveO (w : World) (b : Bool) (m0 m1 m2 : List (Option Nat)) (r : Ending) (w' : World) : Prop :=
  ∃ (a0 a1 a2 : Option Addr) (c0 c1 c2 : Nat) (y0 y1 y2 : List Nat), r = .returned (.tuple #[.agg #[.slice a0 y0.length c0, .slice a1 y1.length c1, .slice a2 y2.length c2], .bool b]) ∧ GotField w.heap.size w w' (ifO b m0) (ifO b m1) (ifO b m2) a0 a1 a2 y0 y1 y2
def OwnO (w : World) (b : Bool) (m0 m1 m2 : List (Option Nat)) (r : Ending) (w' : World) : Prop :=
  ∃ (a0 a1 a2 : Option Addr) (c0 c1 c2 : Nat) (y0 y1 y2 : List Nat), r = .returned (.tuple #[.agg #[.slice a0 y0.length c0, .slice a1 y1.length c1, .slice a2 y2.length c2], .bool b]) ∧ OwnField w w' (ifO b m0) (ifO b m1) (ifO b m2) a0 a1 a2 y0 y1 y2

set_option maxHeartbeats 8000000 in
set_option maxRecDepth 100000 in
theorem implScaleFieldL (wd hi : Int) (wb : Bool) (a b : Option Addr) (ca cb : Nat) (xs ys : List Nat) (a0 a1 a2 : Option Addr) (c0 c1 c2 : Nat) (e x y : List Nat) (by_ : Nat) (w : World) (ha : RowV w a (fvals xs)) (hb : RowV w b (fvals ys)) (qa : ∀ z ∈ xs, z < 2 ^ 32) (qb : ∀ z ∈ ys, z < 2 ^ 32) (hx : xs.length ≤ maxLen) (hy : ys.length ≤ maxLen) (h0 : RowV w a0 (fvals e)) (h1 : RowV w a1 (fvals x)) (h2 : RowV w a2 (fvals y)) (q0 : ∀ z ∈ e, z < 2 ^ 32) (q1 : ∀ z ∈ x, z < 2 ^ 32) (q2 : ∀ z ∈ y, z < 2 ^ 32) (m0 : e.length ≤ maxLen) (m1 : x.length ≤ maxLen) (m2 : y.length ≤ maxLen) (wz : by_ < 2 ^ 32) :
    Calls Try.prog 32 #[.agg #[.int .i64 wd, .int .i64 hi, .bool wb, .slice a xs.length ca, .slice b ys.length cb], .agg #[.slice a0 e.length c0, .slice a1 x.length c1, .slice a2 y.length c2], .float .f32 by_] w (GaveO w (scaleB wd hi wb xs ys e x y by_) (mulC e by_) (mulC x by_) (mulC y by_)) := by
  have hsb : scaleB wd hi wb xs ys e x y by_ = (fieldB wd hi wb xs ys e x y && fitsB wd hi wb (repC (mulC e by_)) (repC (mulC x by_)) (repC (mulC y by_))) := rfl
  have HSB := Lib.hid hsb; clear hsb
  rcases hfv : fieldB wd hi wb xs ys e x y with _ | _
  · skip
    have HR : Hid (scaleB wd hi wb xs ys e x y by_ = false) := Lib.hid (by rw [HSB.out, hfv]; rfl)
    rw [HR.out]; have H_fb := Lib.hid hfv; clear hfv
    have X := Blk.new w #[.int .i64 wd, .int .i64 hi, .bool wb, .slice a xs.length ca, .slice b ys.length cb] 32
    have Y := Blk.new1 w (.cells #[.int .i64 wd, .int .i64 hi, .bool wb, .slice a xs.length ca, .slice b ys.length cb] 32) #[.slice a0 e.length c0, .slice a1 x.length c1, .slice a2 y.length c2] 29
    replace X := X.alloc (.cells #[.slice a0 e.length c0, .slice a1 x.length c1, .slice a2 y.length c2] 29)
    have R := Blk.new2 w (.cells #[.int .i64 wd, .int .i64 hi, .bool wb, .slice a xs.length ca, .slice b ys.length cb] 32) (.cells #[.slice a0 e.length c0, .slice a1 x.length c1, .slice a2 y.length c2] 29) #[.slice none 0 0, .slice none 0 0, .slice none 0 0] 29
    replace X := X.alloc (.cells #[.slice none 0 0, .slice none 0 0, .slice none 0 0] 29)
    replace Y := Y.alloc (.cells #[.slice none 0 0, .slice none 0 0, .slice none 0 0] 29)
    have HB : Hid (Below w.heap.size w (((w.alloc (.cells #[.int .i64 wd, .int .i64 hi, .bool wb, .slice a xs.length ca, .slice b ys.length cb] 32)).alloc (.cells #[.slice a0 e.length c0, .slice a1 x.length c1, .slice a2 y.length c2] 29)).alloc (.cells #[.slice none 0 0, .slice none 0 0, .slice none 0 0] 29))) := Lib.hid ((((Below.refl w.heap.size w).alloc (by simp <;> omega) _).alloc (by simp <;> omega) _).alloc (by simp <;> omega) _)
    go_enter Try.func32, Try.ntmps32
    go_wp2_with fail
    generalize (((w.alloc (.cells #[.int .i64 wd, .int .i64 hi, .bool wb, .slice a xs.length ca, .slice b ys.length cb] 32)).alloc (.cells #[.slice a0 e.length c0, .slice a1 x.length c1, .slice a2 y.length c2] 29)).alloc (.cells #[.slice none 0 0, .slice none 0 0, .slice none 0 0] 29)) = u1 at *
    refine (implIsField _ _ _ _ _ _ _ _ _ _ _ _ _ _ _ _ _ _ _ (ha.later HB.out) (hb.later HB.out) hx hy (h0.later HB.out) (h1.later HB.out) (h2.later HB.out) m0 m1 m2).mono ?_
    rintro r u2 ⟨rfl, q⟩
    replace X := X.later q
    replace Y := Y.later q
    replace R := R.later q
    replace HB := Lib.hid (HB.out.trans (q.mono HB.out.size))
    clear q
    rw [H_fb.out]
    obtain ⟨Rc, Rf⟩ := R.open
    go_wp2
    refine bodyPost_ret (v := .tuple #[.agg #[.slice none 0 0, .slice none 0 0, .slice none 0 0], .bool false]) (by simp [results, Try.results32, go_sem, Rc]) rfl ⟨none, none, none, 0, 0, 0, [], [], [], rfl, GotField.none (((HB.out.setCell (p := ⟨w.heap.size + 1 + 1, 0, none⟩) (by first | omega | (simp <;> omega)) _).setCell (p := ⟨w.heap.size + 1 + 1, 1, none⟩) (by first | omega | (simp <;> omega)) _).setCell (p := ⟨w.heap.size + 1 + 1, 2, none⟩) (by first | omega | (simp <;> omega)) _)⟩
  obtain ⟨p1, _, l0, l1, l2⟩ := field_parts hfv
  obtain ⟨s1, s2, s3, s4, t1, t2⟩ := sides_mul (valid_sides p1)
  have n0 : e.length ≤ 256 := by omega
  have n1 : x.length ≤ 256 := by omega
  have n2 : y.length ≤ 256 := by omega
  rcases hft : fitsB wd hi wb (repC (mulC e by_)) (repC (mulC x by_)) (repC (mulC y by_)) with _ | _
  · skip
    have HR : Hid (scaleB wd hi wb xs ys e x y by_ = false) := Lib.hid (by rw [HSB.out, hfv, hft]; rfl)
    have HFI : Hid (∀ L0 L1 L2, Is L0 (mulC e by_) → Is L1 (mulC x by_) → Is L2 (mulC y by_) → fieldB wd hi wb xs ys L0 L1 L2 = false) := Lib.hid (fun L0 L1 L2 i0 i1 i2 => by unfold fieldB; rw [p1, fits_is i0 i1 i2, hft]; rfl)
    rw [HR.out]; have H_fb := Lib.hid hfv; clear hfv hft p1 l0 l1 l2 t1 t2
    have X := Blk.new w #[.int .i64 wd, .int .i64 hi, .bool wb, .slice a xs.length ca, .slice b ys.length cb] 32
    have Y := Blk.new1 w (.cells #[.int .i64 wd, .int .i64 hi, .bool wb, .slice a xs.length ca, .slice b ys.length cb] 32) #[.slice a0 e.length c0, .slice a1 x.length c1, .slice a2 y.length c2] 29
    replace X := X.alloc (.cells #[.slice a0 e.length c0, .slice a1 x.length c1, .slice a2 y.length c2] 29)
    have R := Blk.new2 w (.cells #[.int .i64 wd, .int .i64 hi, .bool wb, .slice a xs.length ca, .slice b ys.length cb] 32) (.cells #[.slice a0 e.length c0, .slice a1 x.length c1, .slice a2 y.length c2] 29) #[.slice none 0 0, .slice none 0 0, .slice none 0 0] 29
    replace X := X.alloc (.cells #[.slice none 0 0, .slice none 0 0, .slice none 0 0] 29)
    replace Y := Y.alloc (.cells #[.slice none 0 0, .slice none 0 0, .slice none 0 0] 29)
    have HB : Hid (Below w.heap.size w (((w.alloc (.cells #[.int .i64 wd, .int .i64 hi, .bool wb, .slice a xs.length ca, .slice b ys.length cb] 32)).alloc (.cells #[.slice a0 e.length c0, .slice a1 x.length c1, .slice a2 y.length c2] 29)).alloc (.cells #[.slice none 0 0, .slice none 0 0, .slice none 0 0] 29))) := Lib.hid ((((Below.refl w.heap.size w).alloc (by simp <;> omega) _).alloc (by simp <;> omega) _).alloc (by simp <;> omega) _)
    go_enter Try.func32, Try.ntmps32
    go_wp2_with fail
    generalize (((w.alloc (.cells #[.int .i64 wd, .int .i64 hi, .bool wb, .slice a xs.length ca, .slice b ys.length cb] 32)).alloc (.cells #[.slice a0 e.length c0, .slice a1 x.length c1, .slice a2 y.length c2] 29)).alloc (.cells #[.slice none 0 0, .slice none 0 0, .slice none 0 0] 29)) = u1 at *
    refine (implIsField _ _ _ _ _ _ _ _ _ _ _ _ _ _ _ _ _ _ _ (ha.later HB.out) (hb.later HB.out) hx hy (h0.later HB.out) (h1.later HB.out) (h2.later HB.out) m0 m1 m2).mono ?_
    rintro r u2 ⟨rfl, q⟩
    replace X := X.later q
    replace Y := Y.later q
    replace R := R.later q
    replace HB := Lib.hid (HB.out.trans (q.mono HB.out.size))
    clear q
    rw [H_fb.out]
    have zR := R.lt; have b6 := HB.out; have hR : w.heap.size ≤ w.heap.size + 1 + 1 := by omega
    obtain ⟨Xc, Xf⟩ := X.open
    obtain ⟨Yc, Yf⟩ := Y.open
    go_wp2_with fail
    clear Xc Xf
    clear Yc Yf
    obtain ⟨Xc, Xf⟩ := X.open
    obtain ⟨Yc, Yf⟩ := Y.open
    clear Xc Xf
    clear Yc Yf
    have neX : w.heap.size ≠ w.heap.size + 1 + 1 := by omega
    have neY : w.heap.size + 1 ≠ w.heap.size + 1 + 1 := by omega
    have tk0 : True := trivial
    have tk1 : True := trivial
    have tk2 : True := trivial
    have tk3 : True := trivial
    go_region_held3 (fun w' => (∀ i, w'.cell? ⟨w.heap.size, i, none⟩ = (#[.int .i64 wd, .int .i64 hi, .bool wb, .slice a xs.length ca, .slice b ys.length cb] : Array Value)[i]?) ∧ (∀ i, w'.cell? ⟨w.heap.size + 1, i, none⟩ = (#[.slice a0 e.length c0, .slice a1 x.length c1, .slice a2 y.length c2] : Array Value)[i]?) ∧ u2.grownBy w' (some (w.heap.size + 1 + 1))) (first | with_reducible exact keepR2_start X Y | with_reducible exact keepR2_later X Y neX neY (by assumption) (by assumption) | exact keepR2_set3 X Y neX neY (by assumption) _ _ _)
      (first
        | (go_at_call 78; have _t := tk0; clear _t tk0; (with_reducible refine (implScaleList _ _ _ by_ _ (row_heldR2 h0 b6 hR (by assumption)) n0).mono ?_); rintro r u3 ⟨gg0, L0, rfl, oo0, is0, qa0⟩)
        | (go_at_call 78; have _t := tk1; clear _t tk1; (with_reducible refine (implScaleList _ _ _ by_ _ (row_heldR2 h1 b6 hR (by assumption)) n1).mono ?_); rintro r u4 ⟨gg1, L1, rfl, oo1, is1, qa1⟩)
        | (go_at_call 78; have _t := tk2; clear _t tk2; (with_reducible refine (implScaleList _ _ _ by_ _ (row_heldR2 h2 b6 hR (by assumption)) n2).mono ?_); rintro r u5 ⟨gg2, L2, rfl, oo2, is2, qa2⟩)
        | (go_at_call 75; have _t := tk3; clear _t tk3; (with_reducible refine (implIfFieldNo _ _ _ _ _ _ _ _ _ _ _ _ _ _ _ _ _ _ _ (row_heldR2 ha b6 hR (by assumption)) (row_heldR2 hb b6 hR (by assumption)) hx hy ((oo0.later qa1).later qa2).row (oo1.later qa2).row oo2.row (few_max is0) (few_max is1) (few_max is2) (HFI.out L0 L1 L2 is0 is1 is2)).mono ?_); rintro r u6 ⟨rfl, qa3⟩; obtain ⟨Rc, Rf⟩ := (R.later (below_next (below_next (below_next (below_next (below_drew u2) qa0) qa1) qa2) qa3)).open))
    go_wp2
    refine bodyPost_ret (v := .tuple #[.agg #[.slice none 0 0, .slice none 0 0, .slice none 0 0], .bool false]) (by simp [results, Try.results32, go_sem, Rc]) rfl ⟨none, none, none, 0, 0, 0, [], [], [], rfl, GotField.none ((((HB.out.trans ((below_next (below_next (below_next (below_next (below_drew u2) qa0) qa1) qa2) qa3).mono HB.out.size)).setCell (p := ⟨w.heap.size + 1 + 1, 0, none⟩) (by first | omega | (simp <;> omega)) _).setCell (p := ⟨w.heap.size + 1 + 1, 1, none⟩) (by first | omega | (simp <;> omega)) _).setCell (p := ⟨w.heap.size + 1 + 1, 2, none⟩) (by first | omega | (simp <;> omega)) _)⟩
  · skip
    have HR : Hid (scaleB wd hi wb xs ys e x y by_ = true) := Lib.hid (by rw [HSB.out, hfv, hft]; rfl)
    have HFI : Hid (∀ L0 L1 L2, Is L0 (mulC e by_) → Is L1 (mulC x by_) → Is L2 (mulC y by_) → fieldB wd hi wb xs ys L0 L1 L2 = true) := Lib.hid (fun L0 L1 L2 i0 i1 i2 => by unfold fieldB; rw [p1, fits_is i0 i1 i2, hft]; rfl)
    rw [HR.out]; have H_fb := Lib.hid hfv; clear hfv hft p1 l0 l1 l2 t1 t2
    have X := Blk.new w #[.int .i64 wd, .int .i64 hi, .bool wb, .slice a xs.length ca, .slice b ys.length cb] 32
    have Y := Blk.new1 w (.cells #[.int .i64 wd, .int .i64 hi, .bool wb, .slice a xs.length ca, .slice b ys.length cb] 32) #[.slice a0 e.length c0, .slice a1 x.length c1, .slice a2 y.length c2] 29
    replace X := X.alloc (.cells #[.slice a0 e.length c0, .slice a1 x.length c1, .slice a2 y.length c2] 29)
    have R := Blk.new2 w (.cells #[.int .i64 wd, .int .i64 hi, .bool wb, .slice a xs.length ca, .slice b ys.length cb] 32) (.cells #[.slice a0 e.length c0, .slice a1 x.length c1, .slice a2 y.length c2] 29) #[.slice none 0 0, .slice none 0 0, .slice none 0 0] 29
    replace X := X.alloc (.cells #[.slice none 0 0, .slice none 0 0, .slice none 0 0] 29)
    replace Y := Y.alloc (.cells #[.slice none 0 0, .slice none 0 0, .slice none 0 0] 29)
    have HB : Hid (Below w.heap.size w (((w.alloc (.cells #[.int .i64 wd, .int .i64 hi, .bool wb, .slice a xs.length ca, .slice b ys.length cb] 32)).alloc (.cells #[.slice a0 e.length c0, .slice a1 x.length c1, .slice a2 y.length c2] 29)).alloc (.cells #[.slice none 0 0, .slice none 0 0, .slice none 0 0] 29))) := Lib.hid ((((Below.refl w.heap.size w).alloc (by simp <;> omega) _).alloc (by simp <;> omega) _).alloc (by simp <;> omega) _)
    go_enter Try.func32, Try.ntmps32
    go_wp2_with fail
    generalize (((w.alloc (.cells #[.int .i64 wd, .int .i64 hi, .bool wb, .slice a xs.length ca, .slice b ys.length cb] 32)).alloc (.cells #[.slice a0 e.length c0, .slice a1 x.length c1, .slice a2 y.length c2] 29)).alloc (.cells #[.slice none 0 0, .slice none 0 0, .slice none 0 0] 29)) = u1 at *
    refine (implIsField _ _ _ _ _ _ _ _ _ _ _ _ _ _ _ _ _ _ _ (ha.later HB.out) (hb.later HB.out) hx hy (h0.later HB.out) (h1.later HB.out) (h2.later HB.out) m0 m1 m2).mono ?_
    rintro r u2 ⟨rfl, q⟩
    replace X := X.later q
    replace Y := Y.later q
    replace R := R.later q
    replace HB := Lib.hid (HB.out.trans (q.mono HB.out.size))
    clear q
    rw [H_fb.out]
    have zR := R.lt; have b6 := HB.out; have hR : w.heap.size ≤ w.heap.size + 1 + 1 := by omega
    obtain ⟨Xc, Xf⟩ := X.open
    obtain ⟨Yc, Yf⟩ := Y.open
    go_wp2_with fail
    clear Xc Xf
    clear Yc Yf
    obtain ⟨Xc, Xf⟩ := X.open
    obtain ⟨Yc, Yf⟩ := Y.open
    clear Xc Xf
    clear Yc Yf
    have neX : w.heap.size ≠ w.heap.size + 1 + 1 := by omega
    have neY : w.heap.size + 1 ≠ w.heap.size + 1 + 1 := by omega
    have tk0 : True := trivial
    have tk1 : True := trivial
    have tk2 : True := trivial
    have tk3 : True := trivial
    go_region_held3 (fun w' => (∀ i, w'.cell? ⟨w.heap.size, i, none⟩ = (#[.int .i64 wd, .int .i64 hi, .bool wb, .slice a xs.length ca, .slice b ys.length cb] : Array Value)[i]?) ∧ (∀ i, w'.cell? ⟨w.heap.size + 1, i, none⟩ = (#[.slice a0 e.length c0, .slice a1 x.length c1, .slice a2 y.length c2] : Array Value)[i]?) ∧ u2.grownBy w' (some (w.heap.size + 1 + 1))) (first | with_reducible exact keepR2_start X Y | with_reducible exact keepR2_later X Y neX neY (by assumption) (by assumption) | exact keepR2_set3 X Y neX neY (by assumption) _ _ _)
      (first
        | (go_at_call 78; have _t := tk0; clear _t tk0; (with_reducible refine (implScaleList _ _ _ by_ _ (row_heldR2 h0 b6 hR (by assumption)) n0).mono ?_); rintro r u3 ⟨gg0, L0, rfl, oo0, is0, qa0⟩)
        | (go_at_call 78; have _t := tk1; clear _t tk1; (with_reducible refine (implScaleList _ _ _ by_ _ (row_heldR2 h1 b6 hR (by assumption)) n1).mono ?_); rintro r u4 ⟨gg1, L1, rfl, oo1, is1, qa1⟩)
        | (go_at_call 78; have _t := tk2; clear _t tk2; (with_reducible refine (implScaleList _ _ _ by_ _ (row_heldR2 h2 b6 hR (by assumption)) n2).mono ?_); rintro r u5 ⟨gg2, L2, rfl, oo2, is2, qa2⟩)
        | (go_at_call 75; have _t := tk3; clear _t tk3; (with_reducible refine (implIfFieldYes _ _ _ _ _ _ _ _ _ _ _ _ _ _ _ _ _ _ _ (row_heldR2 ha b6 hR (by assumption)) (row_heldR2 hb b6 hR (by assumption)) hx hy ((oo0.later qa1).later qa2).row (oo1.later qa2).row oo2.row (few_max is0) (few_max is1) (few_max is2) (HFI.out L0 L1 L2 is0 is1 is2)).mono ?_); rintro r u6 ⟨rfl, qa3⟩; obtain ⟨Rc, Rf⟩ := (R.later (below_next (below_next (below_next (below_next (below_drew u2) qa0) qa1) qa2) qa3)).open))
    go_wp2
    have z0 := HB.out.size
    have y1 : u2.heap.size ≤ u3.heap.size := qa0.size; have y2 : u3.heap.size ≤ u4.heap.size := qa1.size; have y3 : u4.heap.size ≤ u5.heap.size := qa2.size
    have g1 := (oo0.span _ rfl).2; have g2 := (oo1.span _ rfl).2; have g3 := (oo2.span _ rfl).2; dsimp only at g1 g2 g3; have h1 : u2.heap.size ≤ gg0 := oo0.bound gg0 rfl; have h2 : u3.heap.size ≤ gg1 := oo1.bound gg1 rfl; have h3 : u4.heap.size ≤ gg2 := oo2.bound gg2 rfl
    have e0 : u2.drew.heap.size = u2.heap.size := rfl
    refine bodyPost_ret (v := .tuple #[.agg #[.slice (some ⟨gg0, 0, none⟩) L0.length L0.length, .slice (some ⟨gg1, 0, none⟩) L1.length L1.length, .slice (some ⟨gg2, 0, none⟩) L2.length L2.length], .bool true]) (by simp [results, Try.results32, go_sem, Rc]) rfl ⟨some ⟨gg0, 0, none⟩, some ⟨gg1, 0, none⟩, some ⟨gg2, 0, none⟩, L0.length, L1.length, L2.length, L0, L1, L2, rfl, ⟨(((((((oo0.later qa1).later qa2).later qa3).lower (show w.heap.size ≤ _ by omega)).set (p := ⟨w.heap.size + 1 + 1, 0, none⟩) (ne_block (h := w.heap.size + 1 + 1) (by omega)) _).set (p := ⟨w.heap.size + 1 + 1, 1, none⟩) (ne_block (h := w.heap.size + 1 + 1) (by omega)) _).set (p := ⟨w.heap.size + 1 + 1, 2, none⟩) (ne_block (h := w.heap.size + 1 + 1) (by omega)) _), ((((((oo1.later qa2).later qa3).lower (show w.heap.size ≤ _ by omega)).set (p := ⟨w.heap.size + 1 + 1, 0, none⟩) (ne_block (h := w.heap.size + 1 + 1) (by omega)) _).set (p := ⟨w.heap.size + 1 + 1, 1, none⟩) (ne_block (h := w.heap.size + 1 + 1) (by omega)) _).set (p := ⟨w.heap.size + 1 + 1, 2, none⟩) (ne_block (h := w.heap.size + 1 + 1) (by omega)) _), (((((oo2.later qa3).lower (show w.heap.size ≤ _ by omega)).set (p := ⟨w.heap.size + 1 + 1, 0, none⟩) (ne_block (h := w.heap.size + 1 + 1) (by omega)) _).set (p := ⟨w.heap.size + 1 + 1, 1, none⟩) (ne_block (h := w.heap.size + 1 + 1) (by omega)) _).set (p := ⟨w.heap.size + 1 + 1, 2, none⟩) (ne_block (h := w.heap.size + 1 + 1) (by omega)) _), apart_ne (by omega), apart_ne (by omega), apart_ne (by omega), is0, is1, is2, ((((HB.out.trans ((below_next (below_next (below_next (below_next (below_drew u2) qa0) qa1) qa2) qa3).mono HB.out.size)).setCell (p := ⟨w.heap.size + 1 + 1, 0, none⟩) (by first | omega | (simp <;> omega)) _).setCell (p := ⟨w.heap.size + 1 + 1, 1, none⟩) (by first | omega | (simp <;> omega)) _).setCell (p := ⟨w.heap.size + 1 + 1, 2, none⟩) (by first | omega | (simp <;> omega)) _)⟩⟩

/-- a list behind k products, the rest as it was -/
def MulAt (xs : List Nat) (by_ : Nat) (k : Nat) (L : List Nat) : Prop := MulTo xs by_ k L ∧ ∀ j, k ≤ j → L[j]? = xs[j]?

theorem mulAt_start {xs : List Nat} (by_ : Nat) (h : ∀ z ∈ xs, z < 2 ^ 32) : MulAt xs by_ 0 xs := ⟨⟨rfl, h, fun j _ _ hj => by omega⟩, fun j _ => rfl⟩
theorem mulAt_next {xs : List Nat} {by_ k : Nat} {L : List Nat} {v : Nat} (h : MulAt xs by_ k L) (hk : k < L.length) (hv : v < 2 ^ 32) (hc : canon .f32 v = fop .mul .f32 (canon .f32 L[k]) (canon .f32 by_)) : MulAt xs by_ (k + 1) (L.set k v) := by
  have hx : k < xs.length := by rw [← h.1.1]; exact hk
  have e : L[k] = xs[k] := by
    have := h.2 k (Nat.le_refl _)
    rw [List.getElem?_eq_getElem hk, List.getElem?_eq_getElem hx] at this
    injection this
  rw [e] at hc
  refine ⟨mulTo_next h.1 hx hv hc, fun j hj => ?_⟩
  rw [List.getElem?_set, if_neg (by omega)]
  exact h.2 j (by omega)

set_option maxHeartbeats 4000000 in
set_option maxRecDepth 100000 in
theorem specGiveYes (g : Nat) (wd hi : Int) (wb : Bool) (a b : Option Addr) (ca cb : Nat) (xs ys : List Nat) (a0 a1 a2 : Option Addr) (c0 c1 c2 : Nat) (e x y : List Nat) (w : World) (X : Blk w g #[.int .i64 wd, .int .i64 hi, .bool wb, .slice a xs.length ca, .slice b ys.length cb] 32) (s1 : 3 ≤ wd) (s2 : wd ≤ 16) (s3 : 3 ≤ hi) (s4 : hi ≤ 16) (h0 : RowV w a0 (fvals e)) (h1 : RowV w a1 (fvals x)) (h2 : RowV w a2 (fvals y)) (m0 : e.length ≤ maxLen) (m1 : x.length ≤ maxLen) (m2 : y.length ≤ maxLen) (hfb : fitsB wd hi wb e x y = true) :
    Calls Try.prog 73 #[.pointer (some ⟨g, 0, none⟩), .agg #[.slice a0 e.length c0, .slice a1 x.length c1, .slice a2 y.length c2]] w fun r w' => r = .returned (.tuple #[.agg #[.slice a0 e.length c0, .slice a1 x.length c1, .slice a2 y.length c2], .bool true]) ∧ Below w.heap.size w w' := by
  have HFB := Lib.hid hfb; clear hfb
  have Y := Blk.new w #[.slice a0 e.length c0, .slice a1 x.length c1, .slice a2 y.length c2] 29
  have R := Blk.new1 w (.cells #[.slice a0 e.length c0, .slice a1 x.length c1, .slice a2 y.length c2] 29) #[.slice none 0 0, .slice none 0 0, .slice none 0 0] 29
  replace Y := Y.alloc (.cells #[.slice none 0 0, .slice none 0 0, .slice none 0 0] 29)
  have HB : Hid (Below w.heap.size w ((w.alloc (.cells #[.slice a0 e.length c0, .slice a1 x.length c1, .slice a2 y.length c2] 29)).alloc (.cells #[.slice none 0 0, .slice none 0 0, .slice none 0 0] 29))) := Lib.hid (((Below.refl w.heap.size w).alloc (by simp <;> omega) _).alloc (by simp <;> omega) _)
  go_enter Try.func73, Try.ntmps73
  go_wp2_with fail
  generalize ((w.alloc (.cells #[.slice a0 e.length c0, .slice a1 x.length c1, .slice a2 y.length c2] 29)).alloc (.cells #[.slice none 0 0, .slice none 0 0, .slice none 0 0] 29)) = u1 at *
  have X1 := X.later HB.out
  refine (specFits _ _ _ _ _ _ _ _ _ _ _ _ _ _ _ _ _ _ _ _ _ X1 Y s1 s2 s3 s4 (h0.later HB.out) (h1.later HB.out) (h2.later HB.out) m0 m1 m2).mono ?_
  rintro r u2 ⟨rfl, nq, hw⟩
  have q : Below u1.heap.size u1 u2 := by rw [hw]; exact below_drewN (Below.refl _ _) _
  clear hw X1
  replace Y := Y.later q
  replace R := R.later q
  replace HB := Lib.hid (HB.out.trans (q.mono HB.out.size))
  clear q
  rw [HFB.out]
  obtain ⟨Yc, Yf⟩ := Y.open
  obtain ⟨Rc, Rf⟩ := R.open
  go_wp2
  exact bodyPost_ret (v := .tuple #[.agg #[.slice a0 e.length c0, .slice a1 x.length c1, .slice a2 y.length c2], .bool true]) (by simp [results, Try.results73, go_sem, Rc]) rfl ⟨rfl, (((HB.out.setCell (p := ⟨w.heap.size + 1, 0, none⟩) (by simp <;> omega) _).setCell (p := ⟨w.heap.size + 1, 1, none⟩) (by simp <;> omega) _).setCell (p := ⟨w.heap.size + 1, 2, none⟩) (by simp <;> omega) _)⟩

set_option maxHeartbeats 4000000 in
set_option maxRecDepth 100000 in
theorem specGiveNo (g : Nat) (wd hi : Int) (wb : Bool) (a b : Option Addr) (ca cb : Nat) (xs ys : List Nat) (a0 a1 a2 : Option Addr) (c0 c1 c2 : Nat) (e x y : List Nat) (w : World) (X : Blk w g #[.int .i64 wd, .int .i64 hi, .bool wb, .slice a xs.length ca, .slice b ys.length cb] 32) (s1 : 3 ≤ wd) (s2 : wd ≤ 16) (s3 : 3 ≤ hi) (s4 : hi ≤ 16) (h0 : RowV w a0 (fvals e)) (h1 : RowV w a1 (fvals x)) (h2 : RowV w a2 (fvals y)) (m0 : e.length ≤ maxLen) (m1 : x.length ≤ maxLen) (m2 : y.length ≤ maxLen) (hfb : fitsB wd hi wb e x y = false) :
    Calls Try.prog 73 #[.pointer (some ⟨g, 0, none⟩), .agg #[.slice a0 e.length c0, .slice a1 x.length c1, .slice a2 y.length c2]] w fun r w' => r = .returned (.tuple #[.agg #[.slice none 0 0, .slice none 0 0, .slice none 0 0], .bool false]) ∧ Below w.heap.size w w' := by
  have HFB := Lib.hid hfb; clear hfb
  have Y := Blk.new w #[.slice a0 e.length c0, .slice a1 x.length c1, .slice a2 y.length c2] 29
  have R := Blk.new1 w (.cells #[.slice a0 e.length c0, .slice a1 x.length c1, .slice a2 y.length c2] 29) #[.slice none 0 0, .slice none 0 0, .slice none 0 0] 29
  replace Y := Y.alloc (.cells #[.slice none 0 0, .slice none 0 0, .slice none 0 0] 29)
  have HB : Hid (Below w.heap.size w ((w.alloc (.cells #[.slice a0 e.length c0, .slice a1 x.length c1, .slice a2 y.length c2] 29)).alloc (.cells #[.slice none 0 0, .slice none 0 0, .slice none 0 0] 29))) := Lib.hid (((Below.refl w.heap.size w).alloc (by simp <;> omega) _).alloc (by simp <;> omega) _)
  go_enter Try.func73, Try.ntmps73
  go_wp2_with fail
  generalize ((w.alloc (.cells #[.slice a0 e.length c0, .slice a1 x.length c1, .slice a2 y.length c2] 29)).alloc (.cells #[.slice none 0 0, .slice none 0 0, .slice none 0 0] 29)) = u1 at *
  have X1 := X.later HB.out
  refine (specFits _ _ _ _ _ _ _ _ _ _ _ _ _ _ _ _ _ _ _ _ _ X1 Y s1 s2 s3 s4 (h0.later HB.out) (h1.later HB.out) (h2.later HB.out) m0 m1 m2).mono ?_
  rintro r u2 ⟨rfl, nq, hw⟩
  have q : Below u1.heap.size u1 u2 := by rw [hw]; exact below_drewN (Below.refl _ _) _
  clear hw X1
  replace Y := Y.later q
  replace R := R.later q
  replace HB := Lib.hid (HB.out.trans (q.mono HB.out.size))
  clear q
  rw [HFB.out]
  obtain ⟨Yc, Yf⟩ := Y.open
  obtain ⟨Rc, Rf⟩ := R.open
  go_wp2
  exact bodyPost_ret (v := .tuple #[.agg #[.slice none 0 0, .slice none 0 0, .slice none 0 0], .bool false]) (by simp [results, Try.results73, go_sem, Rc]) rfl ⟨rfl, (((HB.out.setCell (p := ⟨w.heap.size + 1, 0, none⟩) (by simp <;> omega) _).setCell (p := ⟨w.heap.size + 1, 1, none⟩) (by simp <;> omega) _).setCell (p := ⟨w.heap.size + 1, 2, none⟩) (by simp <;> omega) _)⟩

set_option maxHeartbeats 16000000 in
set_option maxRecDepth 100000 in
theorem specScaleFieldL (wd hi : Int) (wb : Bool) (a b : Option Addr) (ca cb : Nat) (xs ys : List Nat) (a0 a1 a2 : Option Addr) (c0 c1 c2 : Nat) (e x y : List Nat) (by_ : Nat) (w : World) (ha : RowV w a (fvals xs)) (hb : RowV w b (fvals ys)) (qa : ∀ z ∈ xs, z < 2 ^ 32) (qb : ∀ z ∈ ys, z < 2 ^ 32) (hx : xs.length ≤ maxLen) (hy : ys.length ≤ maxLen) (h0 : RowV w a0 (fvals e)) (h1 : RowV w a1 (fvals x)) (h2 : RowV w a2 (fvals y)) (q0 : ∀ z ∈ e, z < 2 ^ 32) (q1 : ∀ z ∈ x, z < 2 ^ 32) (q2 : ∀ z ∈ y, z < 2 ^ 32) (m0 : e.length ≤ maxLen) (m1 : x.length ≤ maxLen) (m2 : y.length ≤ maxLen) (wz : by_ < 2 ^ 32) :
    Calls Try.prog 31 #[.agg #[.int .i64 wd, .int .i64 hi, .bool wb, .slice a xs.length ca, .slice b ys.length cb], .agg #[.slice a0 e.length c0, .slice a1 x.length c1, .slice a2 y.length c2], .float .f32 by_] w (OwnO w (scaleB wd hi wb xs ys e x y by_) (mulC e by_) (mulC x by_) (mulC y by_)) := by
  have hsb : scaleB wd hi wb xs ys e x y by_ = (fieldB wd hi wb xs ys e x y && fitsB wd hi wb (repC (mulC e by_)) (repC (mulC x by_)) (repC (mulC y by_))) := rfl
  have hfb : fieldB wd hi wb xs ys e x y = (validB wd hi xs ys && fitsB wd hi wb e x y) := rfl
  rw [hfb] at hsb; have HSB := Lib.hid hsb; clear hsb hfb
  rcases hv : validB wd hi xs ys with _ | _
  · skip
    have HR : Hid (scaleB wd hi wb xs ys e x y by_ = false) := Lib.hid (by rw [HSB.out, hv]; rfl)
    rw [HR.out]; have H_v := Lib.hid hv; clear hv
    have X := Blk.new w #[.int .i64 wd, .int .i64 hi, .bool wb, .slice a xs.length ca, .slice b ys.length cb] 32
    have Y := Blk.new1 w (.cells #[.int .i64 wd, .int .i64 hi, .bool wb, .slice a xs.length ca, .slice b ys.length cb] 32) #[.slice a0 e.length c0, .slice a1 x.length c1, .slice a2 y.length c2] 29
    replace X := X.alloc (.cells #[.slice a0 e.length c0, .slice a1 x.length c1, .slice a2 y.length c2] 29)
    have R := Blk.new2 w (.cells #[.int .i64 wd, .int .i64 hi, .bool wb, .slice a xs.length ca, .slice b ys.length cb] 32) (.cells #[.slice a0 e.length c0, .slice a1 x.length c1, .slice a2 y.length c2] 29) #[.slice none 0 0, .slice none 0 0, .slice none 0 0] 29
    replace X := X.alloc (.cells #[.slice none 0 0, .slice none 0 0, .slice none 0 0] 29)
    replace Y := Y.alloc (.cells #[.slice none 0 0, .slice none 0 0, .slice none 0 0] 29)
    have HB : Hid (Below w.heap.size w (((w.alloc (.cells #[.int .i64 wd, .int .i64 hi, .bool wb, .slice a xs.length ca, .slice b ys.length cb] 32)).alloc (.cells #[.slice a0 e.length c0, .slice a1 x.length c1, .slice a2 y.length c2] 29)).alloc (.cells #[.slice none 0 0, .slice none 0 0, .slice none 0 0] 29))) := Lib.hid ((((Below.refl w.heap.size w).alloc (by simp <;> omega) _).alloc (by simp <;> omega) _).alloc (by simp <;> omega) _)
    go_enter Try.func31, Try.ntmps31
    go_wp2_with fail
    generalize (((w.alloc (.cells #[.int .i64 wd, .int .i64 hi, .bool wb, .slice a xs.length ca, .slice b ys.length cb] 32)).alloc (.cells #[.slice a0 e.length c0, .slice a1 x.length c1, .slice a2 y.length c2] 29)).alloc (.cells #[.slice none 0 0, .slice none 0 0, .slice none 0 0] 29)) = u1 at *
    refine (specIs _ _ _ _ _ _ _ _ _ _ _ X (ha.later HB.out) (hb.later HB.out) hx hy).mono ?_
    rintro r u2 ⟨rfl, nq, hw⟩
    have q : Below u1.heap.size u1 u2 := by rw [hw]; exact below_drewN (Below.refl _ _) _
    clear hw
    replace X := X.later q
    replace Y := Y.later q
    replace R := R.later q
    replace HB := Lib.hid (HB.out.trans (q.mono HB.out.size))
    clear q
    rw [H_v.out]
    obtain ⟨Rc, Rf⟩ := R.open
    go_wp2
    refine bodyPost_ret (v := .tuple #[.agg #[.slice none 0 0, .slice none 0 0, .slice none 0 0], .bool false]) (by simp [results, Try.results31, go_sem, Rc]) rfl ⟨none, none, none, 0, 0, 0, [], [], [], rfl, OwnField.none (((HB.out.setCell (p := ⟨w.heap.size + 1 + 1, 0, none⟩) (by first | omega | (simp <;> omega)) _).setCell (p := ⟨w.heap.size + 1 + 1, 1, none⟩) (by first | omega | (simp <;> omega)) _).setCell (p := ⟨w.heap.size + 1 + 1, 2, none⟩) (by first | omega | (simp <;> omega)) _)⟩
  obtain ⟨s1, s2, s3, s4, t1, t2⟩ := sides_mul (valid_sides hv)
  rcases hf : fitsB wd hi wb e x y with _ | _
  · skip
    have HR : Hid (scaleB wd hi wb xs ys e x y by_ = false) := Lib.hid (by rw [HSB.out, hv, hf]; rfl)
    rw [HR.out]; have H_v := Lib.hid hv; have H_f := Lib.hid hf; clear hv hf t1 t2
    have X := Blk.new w #[.int .i64 wd, .int .i64 hi, .bool wb, .slice a xs.length ca, .slice b ys.length cb] 32
    have Y := Blk.new1 w (.cells #[.int .i64 wd, .int .i64 hi, .bool wb, .slice a xs.length ca, .slice b ys.length cb] 32) #[.slice a0 e.length c0, .slice a1 x.length c1, .slice a2 y.length c2] 29
    replace X := X.alloc (.cells #[.slice a0 e.length c0, .slice a1 x.length c1, .slice a2 y.length c2] 29)
    have R := Blk.new2 w (.cells #[.int .i64 wd, .int .i64 hi, .bool wb, .slice a xs.length ca, .slice b ys.length cb] 32) (.cells #[.slice a0 e.length c0, .slice a1 x.length c1, .slice a2 y.length c2] 29) #[.slice none 0 0, .slice none 0 0, .slice none 0 0] 29
    replace X := X.alloc (.cells #[.slice none 0 0, .slice none 0 0, .slice none 0 0] 29)
    replace Y := Y.alloc (.cells #[.slice none 0 0, .slice none 0 0, .slice none 0 0] 29)
    have HB : Hid (Below w.heap.size w (((w.alloc (.cells #[.int .i64 wd, .int .i64 hi, .bool wb, .slice a xs.length ca, .slice b ys.length cb] 32)).alloc (.cells #[.slice a0 e.length c0, .slice a1 x.length c1, .slice a2 y.length c2] 29)).alloc (.cells #[.slice none 0 0, .slice none 0 0, .slice none 0 0] 29))) := Lib.hid ((((Below.refl w.heap.size w).alloc (by simp <;> omega) _).alloc (by simp <;> omega) _).alloc (by simp <;> omega) _)
    go_enter Try.func31, Try.ntmps31
    go_wp2_with fail
    generalize (((w.alloc (.cells #[.int .i64 wd, .int .i64 hi, .bool wb, .slice a xs.length ca, .slice b ys.length cb] 32)).alloc (.cells #[.slice a0 e.length c0, .slice a1 x.length c1, .slice a2 y.length c2] 29)).alloc (.cells #[.slice none 0 0, .slice none 0 0, .slice none 0 0] 29)) = u1 at *
    refine (specIs _ _ _ _ _ _ _ _ _ _ _ X (ha.later HB.out) (hb.later HB.out) hx hy).mono ?_
    rintro r u2 ⟨rfl, nq, hw⟩
    have q : Below u1.heap.size u1 u2 := by rw [hw]; exact below_drewN (Below.refl _ _) _
    clear hw
    replace X := X.later q
    replace Y := Y.later q
    replace R := R.later q
    replace HB := Lib.hid (HB.out.trans (q.mono HB.out.size))
    clear q
    rw [H_v.out]
    obtain ⟨Xc, Xf⟩ := X.open
    obtain ⟨Yc, Yf⟩ := Y.open
    go_wp2_with fail
    refine (specFits _ _ _ _ _ _ _ _ _ _ _ _ _ _ _ _ _ _ _ _ _ X Y s1 s2 s3 s4 (h0.later HB.out) (h1.later HB.out) (h2.later HB.out) m0 m1 m2).mono ?_
    rintro r u3 ⟨rfl, nq, hw⟩
    have q : Below u2.heap.size u2 u3 := by rw [hw]; exact below_drewN (Below.refl _ _) _
    clear hw
    clear Xc Xf
    clear Yc Yf
    replace X := X.later q
    replace Y := Y.later q
    replace R := R.later q
    replace HB := Lib.hid (HB.out.trans (q.mono HB.out.size))
    clear q
    rw [H_f.out]
    obtain ⟨Rc, Rf⟩ := R.open
    go_wp2
    refine bodyPost_ret (v := .tuple #[.agg #[.slice none 0 0, .slice none 0 0, .slice none 0 0], .bool false]) (by simp [results, Try.results31, go_sem, Rc]) rfl ⟨none, none, none, 0, 0, 0, [], [], [], rfl, OwnField.none (((HB.out.setCell (p := ⟨w.heap.size + 1 + 1, 0, none⟩) (by first | omega | (simp <;> omega)) _).setCell (p := ⟨w.heap.size + 1 + 1, 1, none⟩) (by first | omega | (simp <;> omega)) _).setCell (p := ⟨w.heap.size + 1 + 1, 2, none⟩) (by first | omega | (simp <;> omega)) _)⟩
  have hfv : fieldB wd hi wb xs ys e x y = true := by unfold fieldB; rw [hv, hf]; rfl
  obtain ⟨p1, _, l0, l1, l2⟩ := field_parts hfv
  obtain ⟨n, hn⟩ := Int.eq_ofNat_of_zero_le (show 0 ≤ wd * hi by omega)
  have E0 : e.length = n := by omega
  have E1 : x.length = n := by omega
  have E2 : y.length = n := by omega
  have n256 : n ≤ 256 := by omega
  have n9 : 0 < n := by omega
  rcases hft : fitsB wd hi wb (repC (mulC e by_)) (repC (mulC x by_)) (repC (mulC y by_)) with _ | _
  · skip
    have HR : Hid (scaleB wd hi wb xs ys e x y by_ = false) := Lib.hid (by rw [HSB.out, hv, hf, hft]; rfl)
    have HFI : Hid (∀ L0 L1 L2, Is L0 (mulC e by_) → Is L1 (mulC x by_) → Is L2 (mulC y by_) → fitsB wd hi wb L0 L1 L2 = false) := Lib.hid (fun L0 L1 L2 i0 i1 i2 => by rw [fits_is i0 i1 i2, hft])
    have HA0 : Hid (∀ L, MulTo e by_ n L → Is L (mulC e by_)) := Lib.hid (fun L h => mulTo_all h (by omega) (by omega)); have HA1 : Hid (∀ L, MulTo x by_ n L → Is L (mulC x by_)) := Lib.hid (fun L h => mulTo_all h (by omega) (by omega)); have HA2 : Hid (∀ L, MulTo y by_ n L → Is L (mulC y by_)) := Lib.hid (fun L h => mulTo_all h (by omega) (by omega))
    have HE0 := Lib.hid E0; have HE1 := Lib.hid E1; have HE2 := Lib.hid E2
    obtain ⟨b0, o0, e0, hc0⟩ := h0 0 _ (fvals_get (show 0 < e.length by omega))
    subst e0; clear hc0
    obtain ⟨b1, o1, e1, hc1⟩ := h1 0 _ (fvals_get (show 0 < x.length by omega))
    subst e1; clear hc1
    obtain ⟨b2, o2, e2, hc2⟩ := h2 0 _ (fvals_get (show 0 < y.length by omega))
    subst e2; clear hc2
    rw [HR.out]; have H_v := Lib.hid hv; have H_f := Lib.hid hf; clear hv hf hft hfv p1 l0 l1 l2 t1 t2 hn E0 E1 E2
    have X := Blk.new w #[.int .i64 wd, .int .i64 hi, .bool wb, .slice a xs.length ca, .slice b ys.length cb] 32
    have Y := Blk.new1 w (.cells #[.int .i64 wd, .int .i64 hi, .bool wb, .slice a xs.length ca, .slice b ys.length cb] 32) #[.slice (some ⟨b0, o0, none⟩) e.length c0, .slice (some ⟨b1, o1, none⟩) x.length c1, .slice (some ⟨b2, o2, none⟩) y.length c2] 29
    replace X := X.alloc (.cells #[.slice (some ⟨b0, o0, none⟩) e.length c0, .slice (some ⟨b1, o1, none⟩) x.length c1, .slice (some ⟨b2, o2, none⟩) y.length c2] 29)
    have R := Blk.new2 w (.cells #[.int .i64 wd, .int .i64 hi, .bool wb, .slice a xs.length ca, .slice b ys.length cb] 32) (.cells #[.slice (some ⟨b0, o0, none⟩) e.length c0, .slice (some ⟨b1, o1, none⟩) x.length c1, .slice (some ⟨b2, o2, none⟩) y.length c2] 29) #[.slice none 0 0, .slice none 0 0, .slice none 0 0] 29
    replace X := X.alloc (.cells #[.slice none 0 0, .slice none 0 0, .slice none 0 0] 29)
    replace Y := Y.alloc (.cells #[.slice none 0 0, .slice none 0 0, .slice none 0 0] 29)
    have HB : Hid (Below w.heap.size w (((w.alloc (.cells #[.int .i64 wd, .int .i64 hi, .bool wb, .slice a xs.length ca, .slice b ys.length cb] 32)).alloc (.cells #[.slice (some ⟨b0, o0, none⟩) e.length c0, .slice (some ⟨b1, o1, none⟩) x.length c1, .slice (some ⟨b2, o2, none⟩) y.length c2] 29)).alloc (.cells #[.slice none 0 0, .slice none 0 0, .slice none 0 0] 29))) := Lib.hid ((((Below.refl w.heap.size w).alloc (by simp <;> omega) _).alloc (by simp <;> omega) _).alloc (by simp <;> omega) _)
    go_enter Try.func31, Try.ntmps31
    go_wp2_with fail
    generalize (((w.alloc (.cells #[.int .i64 wd, .int .i64 hi, .bool wb, .slice a xs.length ca, .slice b ys.length cb] 32)).alloc (.cells #[.slice (some ⟨b0, o0, none⟩) e.length c0, .slice (some ⟨b1, o1, none⟩) x.length c1, .slice (some ⟨b2, o2, none⟩) y.length c2] 29)).alloc (.cells #[.slice none 0 0, .slice none 0 0, .slice none 0 0] 29)) = u1 at *
    refine (specIs _ _ _ _ _ _ _ _ _ _ _ X (ha.later HB.out) (hb.later HB.out) hx hy).mono ?_
    rintro r u2 ⟨rfl, nq, hw⟩
    have q : Below u1.heap.size u1 u2 := by rw [hw]; exact below_drewN (Below.refl _ _) _
    clear hw
    replace X := X.later q
    replace Y := Y.later q
    replace R := R.later q
    replace HB := Lib.hid (HB.out.trans (q.mono HB.out.size))
    clear q
    rw [H_v.out]
    obtain ⟨Xc, Xf⟩ := X.open
    obtain ⟨Yc, Yf⟩ := Y.open
    go_wp2_with fail
    refine (specFits _ _ _ _ _ _ _ _ _ _ _ _ _ _ _ _ _ _ _ _ _ X Y s1 s2 s3 s4 (h0.later HB.out) (h1.later HB.out) (h2.later HB.out) m0 m1 m2).mono ?_
    rintro r u3 ⟨rfl, nq, hw⟩
    have q : Below u2.heap.size u2 u3 := by rw [hw]; exact below_drewN (Below.refl _ _) _
    clear hw
    clear Xc Xf
    clear Yc Yf
    replace X := X.later q
    replace Y := Y.later q
    replace R := R.later q
    replace HB := Lib.hid (HB.out.trans (q.mono HB.out.size))
    clear q
    rw [H_f.out]
    obtain ⟨Yc, Yf⟩ := Y.open
    have zR := R.lt; have zB := HB.out.size
    go_wp2_with fail
    refine (specOwn (w.heap.size + 1) _ _ _ _ _ _ _ _ _ n _ _ _ _ Y (h0.later HB.out) (h1.later HB.out) (h2.later HB.out) HE0.out HE1.out HE2.out n9 n256).mono ?_
    rintro r u4 ⟨g0, g1, g2, k0, k1, k2, rfl, w0, w1, w2, g01, g12, q⟩
    clear Yc Yf
    replace X := X.later q
    replace Y := Y.later q
    replace R := R.later q
    replace HB := Lib.hid (HB.out.trans (q.mono HB.out.size))
    clear q
    have zg0 := (w0.span _ rfl); have zg1 := (w1.span _ rfl); have zg2 := (w2.span _ rfl); dsimp only at zg0 zg1 zg2
    have hg8 : ∃ g8, g8 = u4.heap.size := ⟨_, rfl⟩
    obtain ⟨g8, hg8⟩ := hg8
    have B8 := Blk.new u4 #[.slice (some ⟨g0, 0, none⟩) n k0, .slice (some ⟨g1, 0, none⟩) n k1, .slice (some ⟨g2, 0, none⟩) n k2] 29
    rw [← hg8] at B8
    have q := below_new u4 (.cells #[.slice (some ⟨g0, 0, none⟩) n k0, .slice (some ⟨g1, 0, none⟩) n k1, .slice (some ⟨g2, 0, none⟩) n k2] 29)
    replace X := X.later q
    replace Y := Y.later q
    replace R := R.later q
    replace HB := Lib.hid (HB.out.trans (q.mono HB.out.size))
    clear q
    have O0 := Lib.hid ((w0.later (below_new u4 (.cells #[.slice (some ⟨g0, 0, none⟩) n k0, .slice (some ⟨g1, 0, none⟩) n k1, .slice (some ⟨g2, 0, none⟩) n k2] 29))).lower (C := w.heap.size) (by omega)); clear w0
    have O1 := Lib.hid ((w1.later (below_new u4 (.cells #[.slice (some ⟨g0, 0, none⟩) n k0, .slice (some ⟨g1, 0, none⟩) n k1, .slice (some ⟨g2, 0, none⟩) n k2] 29))).lower (C := w.heap.size) (by omega)); clear w1
    have O2 := Lib.hid ((w2.later (below_new u4 (.cells #[.slice (some ⟨g0, 0, none⟩) n k0, .slice (some ⟨g1, 0, none⟩) n k1, .slice (some ⟨g2, 0, none⟩) n k2] 29))).lower (C := w.heap.size) (by omega)); clear w2
    go_upto_region 4 with (fail)
    rw [← hg8]
    generalize u4.alloc (.cells #[.slice (some ⟨g0, 0, none⟩) n k0, .slice (some ⟨g1, 0, none⟩) n k1, .slice (some ⟨g2, 0, none⟩) n k2] 29) = u5 at *
    have z8 := B8.lt
    have zz8 : g0 < g8 ∧ g1 < g8 ∧ g2 < g8 := by omega
    obtain ⟨zz80, zz81, zz82⟩ := zz8; have zw8 : w.heap.size + 1 + 1 < g8 := (by omega); clear hg8
    go_wp2
    go_loopw [9] (fun iv wr => ∃ (k : Nat) (L0 L1 L2 : List Nat), k ≤ n ∧ iv = .int .i64 k ∧ MulAt e by_ k L0 ∧ MulAt x by_ k L1 ∧ MulAt y by_ k L2 ∧ OwnV wr w.heap.size (some ⟨g0, 0, none⟩) (fvals L0) ∧ OwnV wr w.heap.size (some ⟨g1, 0, none⟩) (fvals L1) ∧ OwnV wr w.heap.size (some ⟨g2, 0, none⟩) (fvals L2) ∧ Blk wr g8 #[.slice (some ⟨g0, 0, none⟩) n k0, .slice (some ⟨g1, 0, none⟩) n k1, .slice (some ⟨g2, 0, none⟩) n k2] 29 ∧ Blk wr w.heap.size #[.int .i64 wd, .int .i64 hi, .bool wb, .slice a xs.length ca, .slice b ys.length cb] 32 ∧ Blk wr (w.heap.size + 1 + 1) #[.slice none 0 0, .slice none 0 0, .slice none 0 0] 29 ∧ Below w.heap.size w wr ∧ u5.heap.size ≤ wr.heap.size) (fun iv _ => n - (intOf iv).toNat)
    case atStart => exact ⟨0, e, x, y, Nat.zero_le _, rfl, mulAt_start _ q0, mulAt_start _ q1, mulAt_start _ q2, O0.out, O1.out, O2.out, B8, X, R, HB.out, Nat.le_refl _⟩
    case round =>
      clear O0 O1 O2 B8 X R HB
      obtain ⟨k, L0, L1, L2, hk, rfl, hM0, hM1, hM2, hO0, hO1, hO2, B8, X, R, hB, hsz⟩ := hrel
      have O0 := Lib.hid hO0; have O1 := Lib.hid hO1; have O2 := Lib.hid hO2; have HB := Lib.hid hB; have M0 := Lib.hid hM0; have M1 := Lib.hid hM1; have M2 := Lib.hid hM2
      clear hO0 hO1 hO2 hB hM0 hM1 hM2
      by_cases hlt : k < n
      · skip
        have kL0 : k < L0.length := by rw [M0.out.1.1]; have := HE0.out; omega
        have kL1 : k < L1.length := by rw [M1.out.1.1]; have := HE1.out; omega
        have kL2 : k < L2.length := by rw [M2.out.1.1]; have := HE2.out; omega
        have hki : ((k : Nat) : Int) < (n : Int) := by omega
        have hk0 : (0 : Int) ≤ (k : Int) := by omega
        have NX0 := Lib.hid (fun v hv hc => mulAt_next (v := v) M0.out kL0 hv hc)
        have NX1 := Lib.hid (fun v hv hc => mulAt_next (v := v) M1.out kL1 hv hc)
        have NX2 := Lib.hid (fun v hv hc => mulAt_next (v := v) M2.out kL2 hv hc)
        obtain ⟨b8c, b8f⟩ := B8.open
        go_upto_region 7 with (fail)
        clear b8c b8f
        obtain ⟨cs, tt, _, hblk, hvv⟩ := own_some O0.out
        obtain ⟨gc, gf⟩ := hblk.open
        have cd : wr.drew.cell? ⟨g0, k, none⟩ = some _ := (gc _).trans (hvv k _ (fvals_get kL0))
        have cf : wr.drew.frozen? ⟨g0, k, none⟩ = false := gf _
        have B8d : Blk wr.drew g8 _ _ := B8
        have Od0 : OwnV wr.drew w.heap.size (some ⟨g0, 0, none⟩) (fvals L0) := O0.out
        have Od1 : OwnV wr.drew w.heap.size (some ⟨g1, 0, none⟩) (fvals L1) := O1.out
        have Od2 : OwnV wr.drew w.heap.size (some ⟨g2, 0, none⟩) (fvals L2) := O2.out
        have HBd : Hid (Below w.heap.size w wr.drew) := Lib.hid HB.out.drew
        replace X : Blk wr.drew _ _ _ := X; replace R : Blk wr.drew _ _ _ := R; replace hsz : _ ≤ wr.drew.heap.size := hsz
        clear gc hvv hblk gf O0 O1 O2 HB B8
        refine wp_region_held_drew (S := (fun w' : World => ∀ i, w'.cell? ⟨g8, i, none⟩ = (#[.slice (some ⟨g0, 0, none⟩) n k0, .slice (some ⟨g1, 0, none⟩) n k1, .slice (some ⟨g2, 0, none⟩) n k2] : Array Value)[i]?)) (by kernel_rfl) B8d.open.1 (fun hH => ?_)
        generalize wr.drew = N0a at *
        generalize hzz : L0[k] = zz at *
        refine wpAnyH_take (i := 0) (v := ?_) rfl (by kernel_rfl) (by kernel_rfl) (by kernel_rfl) (fun _ _ _ h => h) (Or.inl ⟨by rfl, ?_⟩) hH ?_
        rotate_left
        · intro w9 hSw; (try dsimp only at hSw); go_simp; try with_reducible rfl
        try simp only [Act.put, List.getElem_toArray, List.getElem_cons_succ, List.getElem_cons_zero, List.setIfInBounds_toArray, List.set_cons_zero, List.set_cons_succ]
        refine wpAnyH_take (i := 1) (v := ?_) rfl (by kernel_rfl) (by kernel_rfl) (by kernel_rfl) (fun _ _ _ h => h) (Or.inl ⟨by rfl, ?_⟩) hH ?_
        rotate_left
        · intro w9 hSw; (try dsimp only at hSw); go_simp; try with_reducible rfl
        try simp only [Act.put, List.getElem_toArray, List.getElem_cons_succ, List.getElem_cons_zero, List.setIfInBounds_toArray, List.set_cons_zero, List.set_cons_succ]
        refine wpAnyH_take (i := 2) (v := ?_) rfl (by kernel_rfl) (by kernel_rfl) (by kernel_rfl) (fun _ _ _ h => h) (Or.inl ⟨by rfl, ?_⟩) hH ?_
        rotate_left
        · intro w9 hSw; (try dsimp only at hSw); go_simp; try with_reducible rfl
        try simp only [Act.put, List.getElem_toArray, List.getElem_cons_succ, List.getElem_cons_zero, List.setIfInBounds_toArray, List.set_cons_zero, List.set_cons_succ]
        refine wpAnyH_take (i := 3) (v := ?_) rfl (by kernel_rfl) (by kernel_rfl) (by kernel_rfl) (fun _ _ _ h => h) (Or.inl ⟨by rfl, ?_⟩) hH ?_
        rotate_left
        · intro w9 hSw; (try dsimp only at hSw); go_simp; try with_reducible rfl
        try simp only [Act.put, List.getElem_toArray, List.getElem_cons_succ, List.getElem_cons_zero, List.setIfInBounds_toArray, List.set_cons_zero, List.set_cons_succ]
        refine wpAnyH_take (i := 4) (v := ?_) rfl (by kernel_rfl) (by kernel_rfl) (by kernel_rfl) (fun _ _ _ h => h) (Or.inl ⟨by rfl, ?_⟩) hH ?_
        rotate_left
        · intro w9 hSw; (try dsimp only at hSw); go_simp; try with_reducible rfl
        try simp only [Act.put, List.getElem_toArray, List.getElem_cons_succ, List.getElem_cons_zero, List.setIfInBounds_toArray, List.set_cons_zero, List.set_cons_succ]
        refine wpAnyH_take (i := 5) (v := ?_) rfl (by kernel_rfl) (by kernel_rfl) (by kernel_rfl) (fun _ _ _ h => h) (Or.inl ⟨by rfl, ?_⟩) hH ?_
        rotate_left
        · intro w9 hSw; (try dsimp only at hSw); go_simp; try with_reducible rfl
        try simp only [Act.put, List.getElem_toArray, List.getElem_cons_succ, List.getElem_cons_zero, List.setIfInBounds_toArray, List.set_cons_zero, List.set_cons_succ]
        refine wpAnyH_take (i := 6) (v := ?_) rfl (by kernel_rfl) (by kernel_rfl) (by kernel_rfl) (fun _ _ _ h => h) (Or.inl ⟨by rfl, ?_⟩) hH ?_
        rotate_left
        · intro w9 hSw; (try dsimp only at hSw); go_simp; try with_reducible rfl
        try simp only [Act.put, List.getElem_toArray, List.getElem_cons_succ, List.getElem_cons_zero, List.setIfInBounds_toArray, List.set_cons_zero, List.set_cons_succ]
        refine wpAnyH_take (i := 8) (v := ?_) rfl (by kernel_rfl) (by kernel_rfl) (by kernel_rfl) (fun _ _ _ h => h) (Or.inl ⟨by rfl, ?_⟩) hH ?_
        rotate_left
        · intro w9 hSw; (try dsimp only at hSw); go_simp; try with_reducible rfl
        try simp only [Act.put, List.getElem_toArray, List.getElem_cons_succ, List.getElem_cons_zero, List.setIfInBounds_toArray, List.set_cons_zero, List.set_cons_succ]
        refine wpAnyH_ready (rs := [7]) (by kernel_rfl) (by simp) ?_
        refine AllReadyH.cons (o := _) rfl (fun K hK => ?_) AllReadyH.nil
        go_simp
        refine hK.out _ _ hH (fun hH2 => ?_)
        clear hK K hH; have hH := hH2; clear hH2
        try simp only [Act.put, List.getElem_toArray, List.getElem_cons_succ, List.getElem_cons_zero, List.setIfInBounds_toArray, List.set_cons_zero, List.set_cons_succ]
        refine wpAnyH_ready (rs := [9]) (by kernel_rfl) (by simp) ?_
        refine AllReadyH.cons (o := _) rfl (fun K hK => ?_) AllReadyH.nil
        refine wp_arith _ rfl _ _ _ _ rfl .f32 _ _ rfl rfl ?_
        intro v0 nn hcv hv0
        have HM0 := Lib.hid hcv; clear hcv
        refine hK.out _ _ (show (fun w' : World => ∀ i, w'.cell? ⟨g8, i, none⟩ = (#[.slice (some ⟨g0, 0, none⟩) n k0, .slice (some ⟨g1, 0, none⟩) n k1, .slice (some ⟨g2, 0, none⟩) n k2] : Array Value)[i]?) _ from hH) (fun hH2 => ?_)
        clear hK K hH; have hH := hH2; clear hH2
        try simp only [Act.put, List.getElem_toArray, List.getElem_cons_succ, List.getElem_cons_zero, List.setIfInBounds_toArray, List.set_cons_zero, List.set_cons_succ]
        replace cd : (N0a.drewN nn).cell? ⟨g0, k, none⟩ = some (.float .f32 zz) := cd
        replace cf : (N0a.drewN nn).frozen? ⟨g0, k, none⟩ = false := cf
        replace B8d : Blk (N0a.drewN nn) g8 _ _ := B8d
        replace Od0 : OwnV (N0a.drewN nn) w.heap.size (some ⟨g0, 0, none⟩) (fvals L0) := Od0
        replace Od1 : OwnV (N0a.drewN nn) w.heap.size (some ⟨g1, 0, none⟩) (fvals L1) := Od1
        replace Od2 : OwnV (N0a.drewN nn) w.heap.size (some ⟨g2, 0, none⟩) (fvals L2) := Od2
        replace HBd : Hid (Below w.heap.size w (N0a.drewN nn)) := Lib.hid (below_drewN HBd.out nn)
        replace X : Blk (N0a.drewN nn) _ _ _ := X; replace R : Blk (N0a.drewN nn) _ _ _ := R; replace hsz : _ ≤ (N0a.drewN nn).heap.size := hsz
        generalize N0a.drewN nn = N0b at *
        refine wpAnyH_ready (rs := [10]) (by kernel_rfl) (by simp) ?_
        refine AllReadyH.cons (o := _) rfl (fun K hK => ?_) AllReadyH.nil
        go_simp
        refine hK.out _ _ hH (fun hH2 => ?_)
        clear hK K hH; have hH := hH2; clear hH2
        try simp only [Act.put, List.getElem_toArray, List.getElem_cons_succ, List.getElem_cons_zero, List.setIfInBounds_toArray, List.set_cons_zero, List.set_cons_succ]
        refine wpAnyH_ready (rs := [11]) (by kernel_rfl) (by simp) ?_
        refine AllReadyH.cons (o := _) rfl (fun K hK => ?_) AllReadyH.nil
        go_simp
        have B8 := B8d.setOther (p := ⟨g0, k, none⟩) (by dsimp only; omega) (.float .f32 v0)
        refine hK.out _ _ B8.open.1 (fun hH2 => ?_)
        clear hK K hH hH2
        have op := own_put Od0 k (.float .f32 v0) (by rw [fvals_length]; exact kL0)
        rw [fvals_set] at op
        have O0 := Lib.hid op; clear op
        have O1 := Lib.hid (Od1.set (p := ⟨g0, k, none⟩) (ne_block (h := g0) (by omega)) (.float .f32 v0))
        have O2 := Lib.hid (Od2.set (p := ⟨g0, k, none⟩) (ne_block (h := g0) (by omega)) (.float .f32 v0))
        have HB := Lib.hid (HBd.out.setCell (p := ⟨g0, k, none⟩) (by dsimp only; omega) (.float .f32 v0))
        replace X := X.setOther (p := ⟨g0, k, none⟩) (by dsimp only; omega) (.float .f32 v0); replace R := R.setOther (p := ⟨g0, k, none⟩) (by dsimp only; omega) (.float .f32 v0); replace hsz : _ ≤ (N0b.setCell ⟨g0, k, none⟩ (.float .f32 v0)).heap.size := (by simpa using hsz)
        clear B8d Od0 Od1 Od2 HBd cd cf
        generalize N0b.setCell ⟨g0, k, none⟩ (.float .f32 v0) = N0 at *
        try simp only [Act.put, List.getElem_toArray, List.getElem_cons_succ, List.getElem_cons_zero, List.setIfInBounds_toArray, List.set_cons_zero, List.set_cons_succ]
        refine wpAnyH_done (by kernel_rfl) ?_ _
        obtain ⟨b8c, b8f⟩ := B8.open
        go_upto_region 8 with (fail)
        clear b8c b8f
        obtain ⟨cs, tt, _, hblk, hvv⟩ := own_some O1.out
        obtain ⟨gc, gf⟩ := hblk.open
        have cd : N0.drew.cell? ⟨g1, k, none⟩ = some _ := (gc _).trans (hvv k _ (fvals_get kL1))
        have cf : N0.drew.frozen? ⟨g1, k, none⟩ = false := gf _
        have B8d : Blk N0.drew g8 _ _ := B8
        have Od0 : OwnV N0.drew w.heap.size (some ⟨g0, 0, none⟩) (fvals (L0.set k v0)) := O0.out
        have Od1 : OwnV N0.drew w.heap.size (some ⟨g1, 0, none⟩) (fvals L1) := O1.out
        have Od2 : OwnV N0.drew w.heap.size (some ⟨g2, 0, none⟩) (fvals L2) := O2.out
        have HBd : Hid (Below w.heap.size w N0.drew) := Lib.hid HB.out.drew
        replace X : Blk N0.drew _ _ _ := X; replace R : Blk N0.drew _ _ _ := R; replace hsz : _ ≤ N0.drew.heap.size := hsz
        clear gc hvv hblk gf O0 O1 O2 HB B8
        refine wp_region_held_drew (S := (fun w' : World => ∀ i, w'.cell? ⟨g8, i, none⟩ = (#[.slice (some ⟨g0, 0, none⟩) n k0, .slice (some ⟨g1, 0, none⟩) n k1, .slice (some ⟨g2, 0, none⟩) n k2] : Array Value)[i]?)) (by kernel_rfl) B8d.open.1 (fun hH => ?_)
        generalize N0.drew = N1a at *
        generalize hzz : L1[k] = zz at *
        refine wpAnyH_take (i := 0) (v := ?_) rfl (by kernel_rfl) (by kernel_rfl) (by kernel_rfl) (fun _ _ _ h => h) (Or.inl ⟨by rfl, ?_⟩) hH ?_
        rotate_left
        · intro w9 hSw; (try dsimp only at hSw); go_simp; try with_reducible rfl
        try simp only [Act.put, List.getElem_toArray, List.getElem_cons_succ, List.getElem_cons_zero, List.setIfInBounds_toArray, List.set_cons_zero, List.set_cons_succ]
        refine wpAnyH_take (i := 1) (v := ?_) rfl (by kernel_rfl) (by kernel_rfl) (by kernel_rfl) (fun _ _ _ h => h) (Or.inl ⟨by rfl, ?_⟩) hH ?_
        rotate_left
        · intro w9 hSw; (try dsimp only at hSw); go_simp; try with_reducible rfl
        try simp only [Act.put, List.getElem_toArray, List.getElem_cons_succ, List.getElem_cons_zero, List.setIfInBounds_toArray, List.set_cons_zero, List.set_cons_succ]
        refine wpAnyH_take (i := 2) (v := ?_) rfl (by kernel_rfl) (by kernel_rfl) (by kernel_rfl) (fun _ _ _ h => h) (Or.inl ⟨by rfl, ?_⟩) hH ?_
        rotate_left
        · intro w9 hSw; (try dsimp only at hSw); go_simp; try with_reducible rfl
        try simp only [Act.put, List.getElem_toArray, List.getElem_cons_succ, List.getElem_cons_zero, List.setIfInBounds_toArray, List.set_cons_zero, List.set_cons_succ]
        refine wpAnyH_take (i := 3) (v := ?_) rfl (by kernel_rfl) (by kernel_rfl) (by kernel_rfl) (fun _ _ _ h => h) (Or.inl ⟨by rfl, ?_⟩) hH ?_
        rotate_left
        · intro w9 hSw; (try dsimp only at hSw); go_simp; try with_reducible rfl
        try simp only [Act.put, List.getElem_toArray, List.getElem_cons_succ, List.getElem_cons_zero, List.setIfInBounds_toArray, List.set_cons_zero, List.set_cons_succ]
        refine wpAnyH_take (i := 4) (v := ?_) rfl (by kernel_rfl) (by kernel_rfl) (by kernel_rfl) (fun _ _ _ h => h) (Or.inl ⟨by rfl, ?_⟩) hH ?_
        rotate_left
        · intro w9 hSw; (try dsimp only at hSw); go_simp; try with_reducible rfl
        try simp only [Act.put, List.getElem_toArray, List.getElem_cons_succ, List.getElem_cons_zero, List.setIfInBounds_toArray, List.set_cons_zero, List.set_cons_succ]
        refine wpAnyH_take (i := 5) (v := ?_) rfl (by kernel_rfl) (by kernel_rfl) (by kernel_rfl) (fun _ _ _ h => h) (Or.inl ⟨by rfl, ?_⟩) hH ?_
        rotate_left
        · intro w9 hSw; (try dsimp only at hSw); go_simp; try with_reducible rfl
        try simp only [Act.put, List.getElem_toArray, List.getElem_cons_succ, List.getElem_cons_zero, List.setIfInBounds_toArray, List.set_cons_zero, List.set_cons_succ]
        refine wpAnyH_take (i := 6) (v := ?_) rfl (by kernel_rfl) (by kernel_rfl) (by kernel_rfl) (fun _ _ _ h => h) (Or.inl ⟨by rfl, ?_⟩) hH ?_
        rotate_left
        · intro w9 hSw; (try dsimp only at hSw); go_simp; try with_reducible rfl
        try simp only [Act.put, List.getElem_toArray, List.getElem_cons_succ, List.getElem_cons_zero, List.setIfInBounds_toArray, List.set_cons_zero, List.set_cons_succ]
        refine wpAnyH_take (i := 8) (v := ?_) rfl (by kernel_rfl) (by kernel_rfl) (by kernel_rfl) (fun _ _ _ h => h) (Or.inl ⟨by rfl, ?_⟩) hH ?_
        rotate_left
        · intro w9 hSw; (try dsimp only at hSw); go_simp; try with_reducible rfl
        try simp only [Act.put, List.getElem_toArray, List.getElem_cons_succ, List.getElem_cons_zero, List.setIfInBounds_toArray, List.set_cons_zero, List.set_cons_succ]
        refine wpAnyH_ready (rs := [7]) (by kernel_rfl) (by simp) ?_
        refine AllReadyH.cons (o := _) rfl (fun K hK => ?_) AllReadyH.nil
        go_simp
        refine hK.out _ _ hH (fun hH2 => ?_)
        clear hK K hH; have hH := hH2; clear hH2
        try simp only [Act.put, List.getElem_toArray, List.getElem_cons_succ, List.getElem_cons_zero, List.setIfInBounds_toArray, List.set_cons_zero, List.set_cons_succ]
        refine wpAnyH_ready (rs := [9]) (by kernel_rfl) (by simp) ?_
        refine AllReadyH.cons (o := _) rfl (fun K hK => ?_) AllReadyH.nil
        refine wp_arith _ rfl _ _ _ _ rfl .f32 _ _ rfl rfl ?_
        intro v1 nn hcv hv1
        have HM1 := Lib.hid hcv; clear hcv
        refine hK.out _ _ (show (fun w' : World => ∀ i, w'.cell? ⟨g8, i, none⟩ = (#[.slice (some ⟨g0, 0, none⟩) n k0, .slice (some ⟨g1, 0, none⟩) n k1, .slice (some ⟨g2, 0, none⟩) n k2] : Array Value)[i]?) _ from hH) (fun hH2 => ?_)
        clear hK K hH; have hH := hH2; clear hH2
        try simp only [Act.put, List.getElem_toArray, List.getElem_cons_succ, List.getElem_cons_zero, List.setIfInBounds_toArray, List.set_cons_zero, List.set_cons_succ]
        replace cd : (N1a.drewN nn).cell? ⟨g1, k, none⟩ = some (.float .f32 zz) := cd
        replace cf : (N1a.drewN nn).frozen? ⟨g1, k, none⟩ = false := cf
        replace B8d : Blk (N1a.drewN nn) g8 _ _ := B8d
        replace Od0 : OwnV (N1a.drewN nn) w.heap.size (some ⟨g0, 0, none⟩) (fvals (L0.set k v0)) := Od0
        replace Od1 : OwnV (N1a.drewN nn) w.heap.size (some ⟨g1, 0, none⟩) (fvals L1) := Od1
        replace Od2 : OwnV (N1a.drewN nn) w.heap.size (some ⟨g2, 0, none⟩) (fvals L2) := Od2
        replace HBd : Hid (Below w.heap.size w (N1a.drewN nn)) := Lib.hid (below_drewN HBd.out nn)
        replace X : Blk (N1a.drewN nn) _ _ _ := X; replace R : Blk (N1a.drewN nn) _ _ _ := R; replace hsz : _ ≤ (N1a.drewN nn).heap.size := hsz
        generalize N1a.drewN nn = N1b at *
        refine wpAnyH_ready (rs := [10]) (by kernel_rfl) (by simp) ?_
        refine AllReadyH.cons (o := _) rfl (fun K hK => ?_) AllReadyH.nil
        go_simp
        refine hK.out _ _ hH (fun hH2 => ?_)
        clear hK K hH; have hH := hH2; clear hH2
        try simp only [Act.put, List.getElem_toArray, List.getElem_cons_succ, List.getElem_cons_zero, List.setIfInBounds_toArray, List.set_cons_zero, List.set_cons_succ]
        refine wpAnyH_ready (rs := [11]) (by kernel_rfl) (by simp) ?_
        refine AllReadyH.cons (o := _) rfl (fun K hK => ?_) AllReadyH.nil
        go_simp
        have B8 := B8d.setOther (p := ⟨g1, k, none⟩) (by dsimp only; omega) (.float .f32 v1)
        refine hK.out _ _ B8.open.1 (fun hH2 => ?_)
        clear hK K hH hH2
        have op := own_put Od1 k (.float .f32 v1) (by rw [fvals_length]; exact kL1)
        rw [fvals_set] at op
        have O1 := Lib.hid op; clear op
        have O0 := Lib.hid (Od0.set (p := ⟨g1, k, none⟩) (ne_block (h := g1) (by omega)) (.float .f32 v1))
        have O2 := Lib.hid (Od2.set (p := ⟨g1, k, none⟩) (ne_block (h := g1) (by omega)) (.float .f32 v1))
        have HB := Lib.hid (HBd.out.setCell (p := ⟨g1, k, none⟩) (by dsimp only; omega) (.float .f32 v1))
        replace X := X.setOther (p := ⟨g1, k, none⟩) (by dsimp only; omega) (.float .f32 v1); replace R := R.setOther (p := ⟨g1, k, none⟩) (by dsimp only; omega) (.float .f32 v1); replace hsz : _ ≤ (N1b.setCell ⟨g1, k, none⟩ (.float .f32 v1)).heap.size := (by simpa using hsz)
        clear B8d Od0 Od1 Od2 HBd cd cf
        generalize N1b.setCell ⟨g1, k, none⟩ (.float .f32 v1) = N1 at *
        try simp only [Act.put, List.getElem_toArray, List.getElem_cons_succ, List.getElem_cons_zero, List.setIfInBounds_toArray, List.set_cons_zero, List.set_cons_succ]
        refine wpAnyH_done (by kernel_rfl) ?_ _
        obtain ⟨b8c, b8f⟩ := B8.open
        go_upto_region 9 with (fail)
        clear b8c b8f
        obtain ⟨cs, tt, _, hblk, hvv⟩ := own_some O2.out
        obtain ⟨gc, gf⟩ := hblk.open
        have cd : N1.drew.cell? ⟨g2, k, none⟩ = some _ := (gc _).trans (hvv k _ (fvals_get kL2))
        have cf : N1.drew.frozen? ⟨g2, k, none⟩ = false := gf _
        have B8d : Blk N1.drew g8 _ _ := B8
        have Od0 : OwnV N1.drew w.heap.size (some ⟨g0, 0, none⟩) (fvals (L0.set k v0)) := O0.out
        have Od1 : OwnV N1.drew w.heap.size (some ⟨g1, 0, none⟩) (fvals (L1.set k v1)) := O1.out
        have Od2 : OwnV N1.drew w.heap.size (some ⟨g2, 0, none⟩) (fvals L2) := O2.out
        have HBd : Hid (Below w.heap.size w N1.drew) := Lib.hid HB.out.drew
        replace X : Blk N1.drew _ _ _ := X; replace R : Blk N1.drew _ _ _ := R; replace hsz : _ ≤ N1.drew.heap.size := hsz
        clear gc hvv hblk gf O0 O1 O2 HB B8
        refine wp_region_held_drew (S := (fun w' : World => ∀ i, w'.cell? ⟨g8, i, none⟩ = (#[.slice (some ⟨g0, 0, none⟩) n k0, .slice (some ⟨g1, 0, none⟩) n k1, .slice (some ⟨g2, 0, none⟩) n k2] : Array Value)[i]?)) (by kernel_rfl) B8d.open.1 (fun hH => ?_)
        generalize N1.drew = N2a at *
        generalize hzz : L2[k] = zz at *
        refine wpAnyH_take (i := 0) (v := ?_) rfl (by kernel_rfl) (by kernel_rfl) (by kernel_rfl) (fun _ _ _ h => h) (Or.inl ⟨by rfl, ?_⟩) hH ?_
        rotate_left
        · intro w9 hSw; (try dsimp only at hSw); go_simp; try with_reducible rfl
        try simp only [Act.put, List.getElem_toArray, List.getElem_cons_succ, List.getElem_cons_zero, List.setIfInBounds_toArray, List.set_cons_zero, List.set_cons_succ]
        refine wpAnyH_take (i := 1) (v := ?_) rfl (by kernel_rfl) (by kernel_rfl) (by kernel_rfl) (fun _ _ _ h => h) (Or.inl ⟨by rfl, ?_⟩) hH ?_
        rotate_left
        · intro w9 hSw; (try dsimp only at hSw); go_simp; try with_reducible rfl
        try simp only [Act.put, List.getElem_toArray, List.getElem_cons_succ, List.getElem_cons_zero, List.setIfInBounds_toArray, List.set_cons_zero, List.set_cons_succ]
        refine wpAnyH_take (i := 2) (v := ?_) rfl (by kernel_rfl) (by kernel_rfl) (by kernel_rfl) (fun _ _ _ h => h) (Or.inl ⟨by rfl, ?_⟩) hH ?_
        rotate_left
        · intro w9 hSw; (try dsimp only at hSw); go_simp; try with_reducible rfl
        try simp only [Act.put, List.getElem_toArray, List.getElem_cons_succ, List.getElem_cons_zero, List.setIfInBounds_toArray, List.set_cons_zero, List.set_cons_succ]
        refine wpAnyH_take (i := 3) (v := ?_) rfl (by kernel_rfl) (by kernel_rfl) (by kernel_rfl) (fun _ _ _ h => h) (Or.inl ⟨by rfl, ?_⟩) hH ?_
        rotate_left
        · intro w9 hSw; (try dsimp only at hSw); go_simp; try with_reducible rfl
        try simp only [Act.put, List.getElem_toArray, List.getElem_cons_succ, List.getElem_cons_zero, List.setIfInBounds_toArray, List.set_cons_zero, List.set_cons_succ]
        refine wpAnyH_take (i := 4) (v := ?_) rfl (by kernel_rfl) (by kernel_rfl) (by kernel_rfl) (fun _ _ _ h => h) (Or.inl ⟨by rfl, ?_⟩) hH ?_
        rotate_left
        · intro w9 hSw; (try dsimp only at hSw); go_simp; try with_reducible rfl
        try simp only [Act.put, List.getElem_toArray, List.getElem_cons_succ, List.getElem_cons_zero, List.setIfInBounds_toArray, List.set_cons_zero, List.set_cons_succ]
        refine wpAnyH_take (i := 5) (v := ?_) rfl (by kernel_rfl) (by kernel_rfl) (by kernel_rfl) (fun _ _ _ h => h) (Or.inl ⟨by rfl, ?_⟩) hH ?_
        rotate_left
        · intro w9 hSw; (try dsimp only at hSw); go_simp; try with_reducible rfl
        try simp only [Act.put, List.getElem_toArray, List.getElem_cons_succ, List.getElem_cons_zero, List.setIfInBounds_toArray, List.set_cons_zero, List.set_cons_succ]
        refine wpAnyH_take (i := 6) (v := ?_) rfl (by kernel_rfl) (by kernel_rfl) (by kernel_rfl) (fun _ _ _ h => h) (Or.inl ⟨by rfl, ?_⟩) hH ?_
        rotate_left
        · intro w9 hSw; (try dsimp only at hSw); go_simp; try with_reducible rfl
        try simp only [Act.put, List.getElem_toArray, List.getElem_cons_succ, List.getElem_cons_zero, List.setIfInBounds_toArray, List.set_cons_zero, List.set_cons_succ]
        refine wpAnyH_take (i := 8) (v := ?_) rfl (by kernel_rfl) (by kernel_rfl) (by kernel_rfl) (fun _ _ _ h => h) (Or.inl ⟨by rfl, ?_⟩) hH ?_
        rotate_left
        · intro w9 hSw; (try dsimp only at hSw); go_simp; try with_reducible rfl
        try simp only [Act.put, List.getElem_toArray, List.getElem_cons_succ, List.getElem_cons_zero, List.setIfInBounds_toArray, List.set_cons_zero, List.set_cons_succ]
        refine wpAnyH_ready (rs := [7]) (by kernel_rfl) (by simp) ?_
        refine AllReadyH.cons (o := _) rfl (fun K hK => ?_) AllReadyH.nil
        go_simp
        refine hK.out _ _ hH (fun hH2 => ?_)
        clear hK K hH; have hH := hH2; clear hH2
        try simp only [Act.put, List.getElem_toArray, List.getElem_cons_succ, List.getElem_cons_zero, List.setIfInBounds_toArray, List.set_cons_zero, List.set_cons_succ]
        refine wpAnyH_ready (rs := [9]) (by kernel_rfl) (by simp) ?_
        refine AllReadyH.cons (o := _) rfl (fun K hK => ?_) AllReadyH.nil
        refine wp_arith _ rfl _ _ _ _ rfl .f32 _ _ rfl rfl ?_
        intro v2 nn hcv hv2
        have HM2 := Lib.hid hcv; clear hcv
        refine hK.out _ _ (show (fun w' : World => ∀ i, w'.cell? ⟨g8, i, none⟩ = (#[.slice (some ⟨g0, 0, none⟩) n k0, .slice (some ⟨g1, 0, none⟩) n k1, .slice (some ⟨g2, 0, none⟩) n k2] : Array Value)[i]?) _ from hH) (fun hH2 => ?_)
        clear hK K hH; have hH := hH2; clear hH2
        try simp only [Act.put, List.getElem_toArray, List.getElem_cons_succ, List.getElem_cons_zero, List.setIfInBounds_toArray, List.set_cons_zero, List.set_cons_succ]
        replace cd : (N2a.drewN nn).cell? ⟨g2, k, none⟩ = some (.float .f32 zz) := cd
        replace cf : (N2a.drewN nn).frozen? ⟨g2, k, none⟩ = false := cf
        replace B8d : Blk (N2a.drewN nn) g8 _ _ := B8d
        replace Od0 : OwnV (N2a.drewN nn) w.heap.size (some ⟨g0, 0, none⟩) (fvals (L0.set k v0)) := Od0
        replace Od1 : OwnV (N2a.drewN nn) w.heap.size (some ⟨g1, 0, none⟩) (fvals (L1.set k v1)) := Od1
        replace Od2 : OwnV (N2a.drewN nn) w.heap.size (some ⟨g2, 0, none⟩) (fvals L2) := Od2
        replace HBd : Hid (Below w.heap.size w (N2a.drewN nn)) := Lib.hid (below_drewN HBd.out nn)
        replace X : Blk (N2a.drewN nn) _ _ _ := X; replace R : Blk (N2a.drewN nn) _ _ _ := R; replace hsz : _ ≤ (N2a.drewN nn).heap.size := hsz
        generalize N2a.drewN nn = N2b at *
        refine wpAnyH_ready (rs := [10]) (by kernel_rfl) (by simp) ?_
        refine AllReadyH.cons (o := _) rfl (fun K hK => ?_) AllReadyH.nil
        go_simp
        refine hK.out _ _ hH (fun hH2 => ?_)
        clear hK K hH; have hH := hH2; clear hH2
        try simp only [Act.put, List.getElem_toArray, List.getElem_cons_succ, List.getElem_cons_zero, List.setIfInBounds_toArray, List.set_cons_zero, List.set_cons_succ]
        refine wpAnyH_ready (rs := [11]) (by kernel_rfl) (by simp) ?_
        refine AllReadyH.cons (o := _) rfl (fun K hK => ?_) AllReadyH.nil
        go_simp
        have B8 := B8d.setOther (p := ⟨g2, k, none⟩) (by dsimp only; omega) (.float .f32 v2)
        refine hK.out _ _ B8.open.1 (fun hH2 => ?_)
        clear hK K hH hH2
        have op := own_put Od2 k (.float .f32 v2) (by rw [fvals_length]; exact kL2)
        rw [fvals_set] at op
        have O2 := Lib.hid op; clear op
        have O0 := Lib.hid (Od0.set (p := ⟨g2, k, none⟩) (ne_block (h := g2) (by omega)) (.float .f32 v2))
        have O1 := Lib.hid (Od1.set (p := ⟨g2, k, none⟩) (ne_block (h := g2) (by omega)) (.float .f32 v2))
        have HB := Lib.hid (HBd.out.setCell (p := ⟨g2, k, none⟩) (by dsimp only; omega) (.float .f32 v2))
        replace X := X.setOther (p := ⟨g2, k, none⟩) (by dsimp only; omega) (.float .f32 v2); replace R := R.setOther (p := ⟨g2, k, none⟩) (by dsimp only; omega) (.float .f32 v2); replace hsz : _ ≤ (N2b.setCell ⟨g2, k, none⟩ (.float .f32 v2)).heap.size := (by simpa using hsz)
        clear B8d Od0 Od1 Od2 HBd cd cf
        generalize N2b.setCell ⟨g2, k, none⟩ (.float .f32 v2) = N2 at *
        try simp only [Act.put, List.getElem_toArray, List.getElem_cons_succ, List.getElem_cons_zero, List.setIfInBounds_toArray, List.set_cons_zero, List.set_cons_succ]
        refine wpAnyH_done (by kernel_rfl) ?_ _
        go_wp2
        go_roundw
        case rel => exact ⟨k + 1, _, _, _, by omega, by go_num, NX0.out v0 hv0 HM0.out, NX1.out v1 hv1 HM1.out, NX2.out v2 hv2 HM2.out, O0.out, O1.out, O2.out, B8, X, R, HB.out, hsz⟩
        case measure => simp [intOf]; omega
      · skip
        obtain rfl : k = n := by omega
        have i0 := HA0.out L0 M0.out.1; have i1 := HA1.out L1 M1.out.1; have i2 := HA2.out L2 M2.out.1
        have e0 : L0.length = k := by rw [M0.out.1.1]; have := HE0.out; omega
        have e1 : L1.length = k := by rw [M1.out.1.1]; have := HE1.out; omega
        have e2 : L2.length = k := by rw [M2.out.1.1]; have := HE2.out; omega
        obtain ⟨b8c, b8f⟩ := B8.open
        go_wp2_with fail
        have CG := specGiveNo w.heap.size wd hi wb a b ca cb xs ys (some ⟨g0, 0, none⟩) (some ⟨g1, 0, none⟩) (some ⟨g2, 0, none⟩) k0 k1 k2 L0 L1 L2 wr X s1 s2 s3 s4 O0.out.row O1.out.row O2.out.row (few_max i0) (few_max i1) (few_max i2) (HFI.out L0 L1 L2 i0 i1 i2)
        rw [e0, e1, e2] at CG
        refine CG.mono ?_
        rintro r w9 ⟨rfl, q⟩
        clear CG
        have hsz9 := HB.out.size
        replace R := R.later q; replace O0 := Lib.hid (O0.out.later q); replace O1 := Lib.hid (O1.out.later q); replace O2 := Lib.hid (O2.out.later q); replace HB := Lib.hid (HB.out.trans (q.mono HB.out.size))
        clear q b8c b8f
        obtain ⟨Rc, Rf⟩ := R.open
        go_wp2
        refine bodyPost_ret (v := .tuple #[.agg #[.slice none 0 0, .slice none 0 0, .slice none 0 0], .bool false]) (by simp [results, Try.results31, go_sem, Rc]) rfl ⟨none, none, none, 0, 0, 0, [], [], [], rfl, OwnField.none (((HB.out.setCell (p := ⟨w.heap.size + 1 + 1, 0, none⟩) (by first | omega | (simp <;> omega)) _).setCell (p := ⟨w.heap.size + 1 + 1, 1, none⟩) (by first | omega | (simp <;> omega)) _).setCell (p := ⟨w.heap.size + 1 + 1, 2, none⟩) (by first | omega | (simp <;> omega)) _)⟩
  · skip
    have HR : Hid (scaleB wd hi wb xs ys e x y by_ = true) := Lib.hid (by rw [HSB.out, hv, hf, hft]; rfl)
    have HFI : Hid (∀ L0 L1 L2, Is L0 (mulC e by_) → Is L1 (mulC x by_) → Is L2 (mulC y by_) → fitsB wd hi wb L0 L1 L2 = true) := Lib.hid (fun L0 L1 L2 i0 i1 i2 => by rw [fits_is i0 i1 i2, hft])
    have HA0 : Hid (∀ L, MulTo e by_ n L → Is L (mulC e by_)) := Lib.hid (fun L h => mulTo_all h (by omega) (by omega)); have HA1 : Hid (∀ L, MulTo x by_ n L → Is L (mulC x by_)) := Lib.hid (fun L h => mulTo_all h (by omega) (by omega)); have HA2 : Hid (∀ L, MulTo y by_ n L → Is L (mulC y by_)) := Lib.hid (fun L h => mulTo_all h (by omega) (by omega))
    have HE0 := Lib.hid E0; have HE1 := Lib.hid E1; have HE2 := Lib.hid E2
    obtain ⟨b0, o0, e0, hc0⟩ := h0 0 _ (fvals_get (show 0 < e.length by omega))
    subst e0; clear hc0
    obtain ⟨b1, o1, e1, hc1⟩ := h1 0 _ (fvals_get (show 0 < x.length by omega))
    subst e1; clear hc1
    obtain ⟨b2, o2, e2, hc2⟩ := h2 0 _ (fvals_get (show 0 < y.length by omega))
    subst e2; clear hc2
    rw [HR.out]; have H_v := Lib.hid hv; have H_f := Lib.hid hf; clear hv hf hft hfv p1 l0 l1 l2 t1 t2 hn E0 E1 E2
    have X := Blk.new w #[.int .i64 wd, .int .i64 hi, .bool wb, .slice a xs.length ca, .slice b ys.length cb] 32
    have Y := Blk.new1 w (.cells #[.int .i64 wd, .int .i64 hi, .bool wb, .slice a xs.length ca, .slice b ys.length cb] 32) #[.slice (some ⟨b0, o0, none⟩) e.length c0, .slice (some ⟨b1, o1, none⟩) x.length c1, .slice (some ⟨b2, o2, none⟩) y.length c2] 29
    replace X := X.alloc (.cells #[.slice (some ⟨b0, o0, none⟩) e.length c0, .slice (some ⟨b1, o1, none⟩) x.length c1, .slice (some ⟨b2, o2, none⟩) y.length c2] 29)
    have R := Blk.new2 w (.cells #[.int .i64 wd, .int .i64 hi, .bool wb, .slice a xs.length ca, .slice b ys.length cb] 32) (.cells #[.slice (some ⟨b0, o0, none⟩) e.length c0, .slice (some ⟨b1, o1, none⟩) x.length c1, .slice (some ⟨b2, o2, none⟩) y.length c2] 29) #[.slice none 0 0, .slice none 0 0, .slice none 0 0] 29
    replace X := X.alloc (.cells #[.slice none 0 0, .slice none 0 0, .slice none 0 0] 29)
    replace Y := Y.alloc (.cells #[.slice none 0 0, .slice none 0 0, .slice none 0 0] 29)
    have HB : Hid (Below w.heap.size w (((w.alloc (.cells #[.int .i64 wd, .int .i64 hi, .bool wb, .slice a xs.length ca, .slice b ys.length cb] 32)).alloc (.cells #[.slice (some ⟨b0, o0, none⟩) e.length c0, .slice (some ⟨b1, o1, none⟩) x.length c1, .slice (some ⟨b2, o2, none⟩) y.length c2] 29)).alloc (.cells #[.slice none 0 0, .slice none 0 0, .slice none 0 0] 29))) := Lib.hid ((((Below.refl w.heap.size w).alloc (by simp <;> omega) _).alloc (by simp <;> omega) _).alloc (by simp <;> omega) _)
    go_enter Try.func31, Try.ntmps31
    go_wp2_with fail
    generalize (((w.alloc (.cells #[.int .i64 wd, .int .i64 hi, .bool wb, .slice a xs.length ca, .slice b ys.length cb] 32)).alloc (.cells #[.slice (some ⟨b0, o0, none⟩) e.length c0, .slice (some ⟨b1, o1, none⟩) x.length c1, .slice (some ⟨b2, o2, none⟩) y.length c2] 29)).alloc (.cells #[.slice none 0 0, .slice none 0 0, .slice none 0 0] 29)) = u1 at *
    refine (specIs _ _ _ _ _ _ _ _ _ _ _ X (ha.later HB.out) (hb.later HB.out) hx hy).mono ?_
    rintro r u2 ⟨rfl, nq, hw⟩
    have q : Below u1.heap.size u1 u2 := by rw [hw]; exact below_drewN (Below.refl _ _) _
    clear hw
    replace X := X.later q
    replace Y := Y.later q
    replace R := R.later q
    replace HB := Lib.hid (HB.out.trans (q.mono HB.out.size))
    clear q
    rw [H_v.out]
    obtain ⟨Xc, Xf⟩ := X.open
    obtain ⟨Yc, Yf⟩ := Y.open
    go_wp2_with fail
    refine (specFits _ _ _ _ _ _ _ _ _ _ _ _ _ _ _ _ _ _ _ _ _ X Y s1 s2 s3 s4 (h0.later HB.out) (h1.later HB.out) (h2.later HB.out) m0 m1 m2).mono ?_
    rintro r u3 ⟨rfl, nq, hw⟩
    have q : Below u2.heap.size u2 u3 := by rw [hw]; exact below_drewN (Below.refl _ _) _
    clear hw
    clear Xc Xf
    clear Yc Yf
    replace X := X.later q
    replace Y := Y.later q
    replace R := R.later q
    replace HB := Lib.hid (HB.out.trans (q.mono HB.out.size))
    clear q
    rw [H_f.out]
    obtain ⟨Yc, Yf⟩ := Y.open
    have zR := R.lt; have zB := HB.out.size
    go_wp2_with fail
    refine (specOwn (w.heap.size + 1) _ _ _ _ _ _ _ _ _ n _ _ _ _ Y (h0.later HB.out) (h1.later HB.out) (h2.later HB.out) HE0.out HE1.out HE2.out n9 n256).mono ?_
    rintro r u4 ⟨g0, g1, g2, k0, k1, k2, rfl, w0, w1, w2, g01, g12, q⟩
    clear Yc Yf
    replace X := X.later q
    replace Y := Y.later q
    replace R := R.later q
    replace HB := Lib.hid (HB.out.trans (q.mono HB.out.size))
    clear q
    have zg0 := (w0.span _ rfl); have zg1 := (w1.span _ rfl); have zg2 := (w2.span _ rfl); dsimp only at zg0 zg1 zg2
    have hg8 : ∃ g8, g8 = u4.heap.size := ⟨_, rfl⟩
    obtain ⟨g8, hg8⟩ := hg8
    have B8 := Blk.new u4 #[.slice (some ⟨g0, 0, none⟩) n k0, .slice (some ⟨g1, 0, none⟩) n k1, .slice (some ⟨g2, 0, none⟩) n k2] 29
    rw [← hg8] at B8
    have q := below_new u4 (.cells #[.slice (some ⟨g0, 0, none⟩) n k0, .slice (some ⟨g1, 0, none⟩) n k1, .slice (some ⟨g2, 0, none⟩) n k2] 29)
    replace X := X.later q
    replace Y := Y.later q
    replace R := R.later q
    replace HB := Lib.hid (HB.out.trans (q.mono HB.out.size))
    clear q
    have O0 := Lib.hid ((w0.later (below_new u4 (.cells #[.slice (some ⟨g0, 0, none⟩) n k0, .slice (some ⟨g1, 0, none⟩) n k1, .slice (some ⟨g2, 0, none⟩) n k2] 29))).lower (C := w.heap.size) (by omega)); clear w0
    have O1 := Lib.hid ((w1.later (below_new u4 (.cells #[.slice (some ⟨g0, 0, none⟩) n k0, .slice (some ⟨g1, 0, none⟩) n k1, .slice (some ⟨g2, 0, none⟩) n k2] 29))).lower (C := w.heap.size) (by omega)); clear w1
    have O2 := Lib.hid ((w2.later (below_new u4 (.cells #[.slice (some ⟨g0, 0, none⟩) n k0, .slice (some ⟨g1, 0, none⟩) n k1, .slice (some ⟨g2, 0, none⟩) n k2] 29))).lower (C := w.heap.size) (by omega)); clear w2
    go_upto_region 4 with (fail)
    rw [← hg8]
    generalize u4.alloc (.cells #[.slice (some ⟨g0, 0, none⟩) n k0, .slice (some ⟨g1, 0, none⟩) n k1, .slice (some ⟨g2, 0, none⟩) n k2] 29) = u5 at *
    have z8 := B8.lt
    have zz8 : g0 < g8 ∧ g1 < g8 ∧ g2 < g8 := by omega
    obtain ⟨zz80, zz81, zz82⟩ := zz8; have zw8 : w.heap.size + 1 + 1 < g8 := (by omega); clear hg8
    go_wp2
    go_loopw [9] (fun iv wr => ∃ (k : Nat) (L0 L1 L2 : List Nat), k ≤ n ∧ iv = .int .i64 k ∧ MulAt e by_ k L0 ∧ MulAt x by_ k L1 ∧ MulAt y by_ k L2 ∧ OwnV wr w.heap.size (some ⟨g0, 0, none⟩) (fvals L0) ∧ OwnV wr w.heap.size (some ⟨g1, 0, none⟩) (fvals L1) ∧ OwnV wr w.heap.size (some ⟨g2, 0, none⟩) (fvals L2) ∧ Blk wr g8 #[.slice (some ⟨g0, 0, none⟩) n k0, .slice (some ⟨g1, 0, none⟩) n k1, .slice (some ⟨g2, 0, none⟩) n k2] 29 ∧ Blk wr w.heap.size #[.int .i64 wd, .int .i64 hi, .bool wb, .slice a xs.length ca, .slice b ys.length cb] 32 ∧ Blk wr (w.heap.size + 1 + 1) #[.slice none 0 0, .slice none 0 0, .slice none 0 0] 29 ∧ Below w.heap.size w wr ∧ u5.heap.size ≤ wr.heap.size) (fun iv _ => n - (intOf iv).toNat)
    case atStart => exact ⟨0, e, x, y, Nat.zero_le _, rfl, mulAt_start _ q0, mulAt_start _ q1, mulAt_start _ q2, O0.out, O1.out, O2.out, B8, X, R, HB.out, Nat.le_refl _⟩
    case round =>
      clear O0 O1 O2 B8 X R HB
      obtain ⟨k, L0, L1, L2, hk, rfl, hM0, hM1, hM2, hO0, hO1, hO2, B8, X, R, hB, hsz⟩ := hrel
      have O0 := Lib.hid hO0; have O1 := Lib.hid hO1; have O2 := Lib.hid hO2; have HB := Lib.hid hB; have M0 := Lib.hid hM0; have M1 := Lib.hid hM1; have M2 := Lib.hid hM2
      clear hO0 hO1 hO2 hB hM0 hM1 hM2
      by_cases hlt : k < n
      · skip
        have kL0 : k < L0.length := by rw [M0.out.1.1]; have := HE0.out; omega
        have kL1 : k < L1.length := by rw [M1.out.1.1]; have := HE1.out; omega
        have kL2 : k < L2.length := by rw [M2.out.1.1]; have := HE2.out; omega
        have hki : ((k : Nat) : Int) < (n : Int) := by omega
        have hk0 : (0 : Int) ≤ (k : Int) := by omega
        have NX0 := Lib.hid (fun v hv hc => mulAt_next (v := v) M0.out kL0 hv hc)
        have NX1 := Lib.hid (fun v hv hc => mulAt_next (v := v) M1.out kL1 hv hc)
        have NX2 := Lib.hid (fun v hv hc => mulAt_next (v := v) M2.out kL2 hv hc)
        obtain ⟨b8c, b8f⟩ := B8.open
        go_upto_region 7 with (fail)
        clear b8c b8f
        obtain ⟨cs, tt, _, hblk, hvv⟩ := own_some O0.out
        obtain ⟨gc, gf⟩ := hblk.open
        have cd : wr.drew.cell? ⟨g0, k, none⟩ = some _ := (gc _).trans (hvv k _ (fvals_get kL0))
        have cf : wr.drew.frozen? ⟨g0, k, none⟩ = false := gf _
        have B8d : Blk wr.drew g8 _ _ := B8
        have Od0 : OwnV wr.drew w.heap.size (some ⟨g0, 0, none⟩) (fvals L0) := O0.out
        have Od1 : OwnV wr.drew w.heap.size (some ⟨g1, 0, none⟩) (fvals L1) := O1.out
        have Od2 : OwnV wr.drew w.heap.size (some ⟨g2, 0, none⟩) (fvals L2) := O2.out
        have HBd : Hid (Below w.heap.size w wr.drew) := Lib.hid HB.out.drew
        replace X : Blk wr.drew _ _ _ := X; replace R : Blk wr.drew _ _ _ := R; replace hsz : _ ≤ wr.drew.heap.size := hsz
        clear gc hvv hblk gf O0 O1 O2 HB B8
        refine wp_region_held_drew (S := (fun w' : World => ∀ i, w'.cell? ⟨g8, i, none⟩ = (#[.slice (some ⟨g0, 0, none⟩) n k0, .slice (some ⟨g1, 0, none⟩) n k1, .slice (some ⟨g2, 0, none⟩) n k2] : Array Value)[i]?)) (by kernel_rfl) B8d.open.1 (fun hH => ?_)
        generalize wr.drew = N0a at *
        generalize hzz : L0[k] = zz at *
        refine wpAnyH_take (i := 0) (v := ?_) rfl (by kernel_rfl) (by kernel_rfl) (by kernel_rfl) (fun _ _ _ h => h) (Or.inl ⟨by rfl, ?_⟩) hH ?_
        rotate_left
        · intro w9 hSw; (try dsimp only at hSw); go_simp; try with_reducible rfl
        try simp only [Act.put, List.getElem_toArray, List.getElem_cons_succ, List.getElem_cons_zero, List.setIfInBounds_toArray, List.set_cons_zero, List.set_cons_succ]
        refine wpAnyH_take (i := 1) (v := ?_) rfl (by kernel_rfl) (by kernel_rfl) (by kernel_rfl) (fun _ _ _ h => h) (Or.inl ⟨by rfl, ?_⟩) hH ?_
        rotate_left
        · intro w9 hSw; (try dsimp only at hSw); go_simp; try with_reducible rfl
        try simp only [Act.put, List.getElem_toArray, List.getElem_cons_succ, List.getElem_cons_zero, List.setIfInBounds_toArray, List.set_cons_zero, List.set_cons_succ]
        refine wpAnyH_take (i := 2) (v := ?_) rfl (by kernel_rfl) (by kernel_rfl) (by kernel_rfl) (fun _ _ _ h => h) (Or.inl ⟨by rfl, ?_⟩) hH ?_
        rotate_left
        · intro w9 hSw; (try dsimp only at hSw); go_simp; try with_reducible rfl
        try simp only [Act.put, List.getElem_toArray, List.getElem_cons_succ, List.getElem_cons_zero, List.setIfInBounds_toArray, List.set_cons_zero, List.set_cons_succ]
        refine wpAnyH_take (i := 3) (v := ?_) rfl (by kernel_rfl) (by kernel_rfl) (by kernel_rfl) (fun _ _ _ h => h) (Or.inl ⟨by rfl, ?_⟩) hH ?_
        rotate_left
        · intro w9 hSw; (try dsimp only at hSw); go_simp; try with_reducible rfl
        try simp only [Act.put, List.getElem_toArray, List.getElem_cons_succ, List.getElem_cons_zero, List.setIfInBounds_toArray, List.set_cons_zero, List.set_cons_succ]
        refine wpAnyH_take (i := 4) (v := ?_) rfl (by kernel_rfl) (by kernel_rfl) (by kernel_rfl) (fun _ _ _ h => h) (Or.inl ⟨by rfl, ?_⟩) hH ?_
        rotate_left
        · intro w9 hSw; (try dsimp only at hSw); go_simp; try with_reducible rfl
        try simp only [Act.put, List.getElem_toArray, List.getElem_cons_succ, List.getElem_cons_zero, List.setIfInBounds_toArray, List.set_cons_zero, List.set_cons_succ]
        refine wpAnyH_take (i := 5) (v := ?_) rfl (by kernel_rfl) (by kernel_rfl) (by kernel_rfl) (fun _ _ _ h => h) (Or.inl ⟨by rfl, ?_⟩) hH ?_
        rotate_left
        · intro w9 hSw; (try dsimp only at hSw); go_simp; try with_reducible rfl
        try simp only [Act.put, List.getElem_toArray, List.getElem_cons_succ, List.getElem_cons_zero, List.setIfInBounds_toArray, List.set_cons_zero, List.set_cons_succ]
        refine wpAnyH_take (i := 6) (v := ?_) rfl (by kernel_rfl) (by kernel_rfl) (by kernel_rfl) (fun _ _ _ h => h) (Or.inl ⟨by rfl, ?_⟩) hH ?_
        rotate_left
        · intro w9 hSw; (try dsimp only at hSw); go_simp; try with_reducible rfl
        try simp only [Act.put, List.getElem_toArray, List.getElem_cons_succ, List.getElem_cons_zero, List.setIfInBounds_toArray, List.set_cons_zero, List.set_cons_succ]
        refine wpAnyH_take (i := 8) (v := ?_) rfl (by kernel_rfl) (by kernel_rfl) (by kernel_rfl) (fun _ _ _ h => h) (Or.inl ⟨by rfl, ?_⟩) hH ?_
        rotate_left
        · intro w9 hSw; (try dsimp only at hSw); go_simp; try with_reducible rfl
        try simp only [Act.put, List.getElem_toArray, List.getElem_cons_succ, List.getElem_cons_zero, List.setIfInBounds_toArray, List.set_cons_zero, List.set_cons_succ]
        refine wpAnyH_ready (rs := [7]) (by kernel_rfl) (by simp) ?_
        refine AllReadyH.cons (o := _) rfl (fun K hK => ?_) AllReadyH.nil
        go_simp
        refine hK.out _ _ hH (fun hH2 => ?_)
        clear hK K hH; have hH := hH2; clear hH2
        try simp only [Act.put, List.getElem_toArray, List.getElem_cons_succ, List.getElem_cons_zero, List.setIfInBounds_toArray, List.set_cons_zero, List.set_cons_succ]
        refine wpAnyH_ready (rs := [9]) (by kernel_rfl) (by simp) ?_
        refine AllReadyH.cons (o := _) rfl (fun K hK => ?_) AllReadyH.nil
        refine wp_arith _ rfl _ _ _ _ rfl .f32 _ _ rfl rfl ?_
        intro v0 nn hcv hv0
        have HM0 := Lib.hid hcv; clear hcv
        refine hK.out _ _ (show (fun w' : World => ∀ i, w'.cell? ⟨g8, i, none⟩ = (#[.slice (some ⟨g0, 0, none⟩) n k0, .slice (some ⟨g1, 0, none⟩) n k1, .slice (some ⟨g2, 0, none⟩) n k2] : Array Value)[i]?) _ from hH) (fun hH2 => ?_)
        clear hK K hH; have hH := hH2; clear hH2
        try simp only [Act.put, List.getElem_toArray, List.getElem_cons_succ, List.getElem_cons_zero, List.setIfInBounds_toArray, List.set_cons_zero, List.set_cons_succ]
        replace cd : (N0a.drewN nn).cell? ⟨g0, k, none⟩ = some (.float .f32 zz) := cd
        replace cf : (N0a.drewN nn).frozen? ⟨g0, k, none⟩ = false := cf
        replace B8d : Blk (N0a.drewN nn) g8 _ _ := B8d
        replace Od0 : OwnV (N0a.drewN nn) w.heap.size (some ⟨g0, 0, none⟩) (fvals L0) := Od0
        replace Od1 : OwnV (N0a.drewN nn) w.heap.size (some ⟨g1, 0, none⟩) (fvals L1) := Od1
        replace Od2 : OwnV (N0a.drewN nn) w.heap.size (some ⟨g2, 0, none⟩) (fvals L2) := Od2
        replace HBd : Hid (Below w.heap.size w (N0a.drewN nn)) := Lib.hid (below_drewN HBd.out nn)
        replace X : Blk (N0a.drewN nn) _ _ _ := X; replace R : Blk (N0a.drewN nn) _ _ _ := R; replace hsz : _ ≤ (N0a.drewN nn).heap.size := hsz
        generalize N0a.drewN nn = N0b at *
        refine wpAnyH_ready (rs := [10]) (by kernel_rfl) (by simp) ?_
        refine AllReadyH.cons (o := _) rfl (fun K hK => ?_) AllReadyH.nil
        go_simp
        refine hK.out _ _ hH (fun hH2 => ?_)
        clear hK K hH; have hH := hH2; clear hH2
        try simp only [Act.put, List.getElem_toArray, List.getElem_cons_succ, List.getElem_cons_zero, List.setIfInBounds_toArray, List.set_cons_zero, List.set_cons_succ]
        refine wpAnyH_ready (rs := [11]) (by kernel_rfl) (by simp) ?_
        refine AllReadyH.cons (o := _) rfl (fun K hK => ?_) AllReadyH.nil
        go_simp
        have B8 := B8d.setOther (p := ⟨g0, k, none⟩) (by dsimp only; omega) (.float .f32 v0)
        refine hK.out _ _ B8.open.1 (fun hH2 => ?_)
        clear hK K hH hH2
        have op := own_put Od0 k (.float .f32 v0) (by rw [fvals_length]; exact kL0)
        rw [fvals_set] at op
        have O0 := Lib.hid op; clear op
        have O1 := Lib.hid (Od1.set (p := ⟨g0, k, none⟩) (ne_block (h := g0) (by omega)) (.float .f32 v0))
        have O2 := Lib.hid (Od2.set (p := ⟨g0, k, none⟩) (ne_block (h := g0) (by omega)) (.float .f32 v0))
        have HB := Lib.hid (HBd.out.setCell (p := ⟨g0, k, none⟩) (by dsimp only; omega) (.float .f32 v0))
        replace X := X.setOther (p := ⟨g0, k, none⟩) (by dsimp only; omega) (.float .f32 v0); replace R := R.setOther (p := ⟨g0, k, none⟩) (by dsimp only; omega) (.float .f32 v0); replace hsz : _ ≤ (N0b.setCell ⟨g0, k, none⟩ (.float .f32 v0)).heap.size := (by simpa using hsz)
        clear B8d Od0 Od1 Od2 HBd cd cf
        generalize N0b.setCell ⟨g0, k, none⟩ (.float .f32 v0) = N0 at *
        try simp only [Act.put, List.getElem_toArray, List.getElem_cons_succ, List.getElem_cons_zero, List.setIfInBounds_toArray, List.set_cons_zero, List.set_cons_succ]
        refine wpAnyH_done (by kernel_rfl) ?_ _
        obtain ⟨b8c, b8f⟩ := B8.open
        go_upto_region 8 with (fail)
        clear b8c b8f
        obtain ⟨cs, tt, _, hblk, hvv⟩ := own_some O1.out
        obtain ⟨gc, gf⟩ := hblk.open
        have cd : N0.drew.cell? ⟨g1, k, none⟩ = some _ := (gc _).trans (hvv k _ (fvals_get kL1))
        have cf : N0.drew.frozen? ⟨g1, k, none⟩ = false := gf _
        have B8d : Blk N0.drew g8 _ _ := B8
        have Od0 : OwnV N0.drew w.heap.size (some ⟨g0, 0, none⟩) (fvals (L0.set k v0)) := O0.out
        have Od1 : OwnV N0.drew w.heap.size (some ⟨g1, 0, none⟩) (fvals L1) := O1.out
        have Od2 : OwnV N0.drew w.heap.size (some ⟨g2, 0, none⟩) (fvals L2) := O2.out
        have HBd : Hid (Below w.heap.size w N0.drew) := Lib.hid HB.out.drew
        replace X : Blk N0.drew _ _ _ := X; replace R : Blk N0.drew _ _ _ := R; replace hsz : _ ≤ N0.drew.heap.size := hsz
        clear gc hvv hblk gf O0 O1 O2 HB B8
        refine wp_region_held_drew (S := (fun w' : World => ∀ i, w'.cell? ⟨g8, i, none⟩ = (#[.slice (some ⟨g0, 0, none⟩) n k0, .slice (some ⟨g1, 0, none⟩) n k1, .slice (some ⟨g2, 0, none⟩) n k2] : Array Value)[i]?)) (by kernel_rfl) B8d.open.1 (fun hH => ?_)
        generalize N0.drew = N1a at *
        generalize hzz : L1[k] = zz at *
        refine wpAnyH_take (i := 0) (v := ?_) rfl (by kernel_rfl) (by kernel_rfl) (by kernel_rfl) (fun _ _ _ h => h) (Or.inl ⟨by rfl, ?_⟩) hH ?_
        rotate_left
        · intro w9 hSw; (try dsimp only at hSw); go_simp; try with_reducible rfl
        try simp only [Act.put, List.getElem_toArray, List.getElem_cons_succ, List.getElem_cons_zero, List.setIfInBounds_toArray, List.set_cons_zero, List.set_cons_succ]
        refine wpAnyH_take (i := 1) (v := ?_) rfl (by kernel_rfl) (by kernel_rfl) (by kernel_rfl) (fun _ _ _ h => h) (Or.inl ⟨by rfl, ?_⟩) hH ?_
        rotate_left
        · intro w9 hSw; (try dsimp only at hSw); go_simp; try with_reducible rfl
        try simp only [Act.put, List.getElem_toArray, List.getElem_cons_succ, List.getElem_cons_zero, List.setIfInBounds_toArray, List.set_cons_zero, List.set_cons_succ]
        refine wpAnyH_take (i := 2) (v := ?_) rfl (by kernel_rfl) (by kernel_rfl) (by kernel_rfl) (fun _ _ _ h => h) (Or.inl ⟨by rfl, ?_⟩) hH ?_
        rotate_left
        · intro w9 hSw; (try dsimp only at hSw); go_simp; try with_reducible rfl
        try simp only [Act.put, List.getElem_toArray, List.getElem_cons_succ, List.getElem_cons_zero, List.setIfInBounds_toArray, List.set_cons_zero, List.set_cons_succ]
        refine wpAnyH_take (i := 3) (v := ?_) rfl (by kernel_rfl) (by kernel_rfl) (by kernel_rfl) (fun _ _ _ h => h) (Or.inl ⟨by rfl, ?_⟩) hH ?_
        rotate_left
        · intro w9 hSw; (try dsimp only at hSw); go_simp; try with_reducible rfl
        try simp only [Act.put, List.getElem_toArray, List.getElem_cons_succ, List.getElem_cons_zero, List.setIfInBounds_toArray, List.set_cons_zero, List.set_cons_succ]
        refine wpAnyH_take (i := 4) (v := ?_) rfl (by kernel_rfl) (by kernel_rfl) (by kernel_rfl) (fun _ _ _ h => h) (Or.inl ⟨by rfl, ?_⟩) hH ?_
        rotate_left
        · intro w9 hSw; (try dsimp only at hSw); go_simp; try with_reducible rfl
        try simp only [Act.put, List.getElem_toArray, List.getElem_cons_succ, List.getElem_cons_zero, List.setIfInBounds_toArray, List.set_cons_zero, List.set_cons_succ]
        refine wpAnyH_take (i := 5) (v := ?_) rfl (by kernel_rfl) (by kernel_rfl) (by kernel_rfl) (fun _ _ _ h => h) (Or.inl ⟨by rfl, ?_⟩) hH ?_
        rotate_left
        · intro w9 hSw; (try dsimp only at hSw); go_simp; try with_reducible rfl
        try simp only [Act.put, List.getElem_toArray, List.getElem_cons_succ, List.getElem_cons_zero, List.setIfInBounds_toArray, List.set_cons_zero, List.set_cons_succ]
        refine wpAnyH_take (i := 6) (v := ?_) rfl (by kernel_rfl) (by kernel_rfl) (by kernel_rfl) (fun _ _ _ h => h) (Or.inl ⟨by rfl, ?_⟩) hH ?_
        rotate_left
        · intro w9 hSw; (try dsimp only at hSw); go_simp; try with_reducible rfl
        try simp only [Act.put, List.getElem_toArray, List.getElem_cons_succ, List.getElem_cons_zero, List.setIfInBounds_toArray, List.set_cons_zero, List.set_cons_succ]
        refine wpAnyH_take (i := 8) (v := ?_) rfl (by kernel_rfl) (by kernel_rfl) (by kernel_rfl) (fun _ _ _ h => h) (Or.inl ⟨by rfl, ?_⟩) hH ?_
        rotate_left
        · intro w9 hSw; (try dsimp only at hSw); go_simp; try with_reducible rfl
        try simp only [Act.put, List.getElem_toArray, List.getElem_cons_succ, List.getElem_cons_zero, List.setIfInBounds_toArray, List.set_cons_zero, List.set_cons_succ]
        refine wpAnyH_ready (rs := [7]) (by kernel_rfl) (by simp) ?_
        refine AllReadyH.cons (o := _) rfl (fun K hK => ?_) AllReadyH.nil
        go_simp
        refine hK.out _ _ hH (fun hH2 => ?_)
        clear hK K hH; have hH := hH2; clear hH2
        try simp only [Act.put, List.getElem_toArray, List.getElem_cons_succ, List.getElem_cons_zero, List.setIfInBounds_toArray, List.set_cons_zero, List.set_cons_succ]
        refine wpAnyH_ready (rs := [9]) (by kernel_rfl) (by simp) ?_
        refine AllReadyH.cons (o := _) rfl (fun K hK => ?_) AllReadyH.nil
        refine wp_arith _ rfl _ _ _ _ rfl .f32 _ _ rfl rfl ?_
        intro v1 nn hcv hv1
        have HM1 := Lib.hid hcv; clear hcv
        refine hK.out _ _ (show (fun w' : World => ∀ i, w'.cell? ⟨g8, i, none⟩ = (#[.slice (some ⟨g0, 0, none⟩) n k0, .slice (some ⟨g1, 0, none⟩) n k1, .slice (some ⟨g2, 0, none⟩) n k2] : Array Value)[i]?) _ from hH) (fun hH2 => ?_)
        clear hK K hH; have hH := hH2; clear hH2
        try simp only [Act.put, List.getElem_toArray, List.getElem_cons_succ, List.getElem_cons_zero, List.setIfInBounds_toArray, List.set_cons_zero, List.set_cons_succ]
        replace cd : (N1a.drewN nn).cell? ⟨g1, k, none⟩ = some (.float .f32 zz) := cd
        replace cf : (N1a.drewN nn).frozen? ⟨g1, k, none⟩ = false := cf
        replace B8d : Blk (N1a.drewN nn) g8 _ _ := B8d
        replace Od0 : OwnV (N1a.drewN nn) w.heap.size (some ⟨g0, 0, none⟩) (fvals (L0.set k v0)) := Od0
        replace Od1 : OwnV (N1a.drewN nn) w.heap.size (some ⟨g1, 0, none⟩) (fvals L1) := Od1
        replace Od2 : OwnV (N1a.drewN nn) w.heap.size (some ⟨g2, 0, none⟩) (fvals L2) := Od2
        replace HBd : Hid (Below w.heap.size w (N1a.drewN nn)) := Lib.hid (below_drewN HBd.out nn)
        replace X : Blk (N1a.drewN nn) _ _ _ := X; replace R : Blk (N1a.drewN nn) _ _ _ := R; replace hsz : _ ≤ (N1a.drewN nn).heap.size := hsz
        generalize N1a.drewN nn = N1b at *
        refine wpAnyH_ready (rs := [10]) (by kernel_rfl) (by simp) ?_
        refine AllReadyH.cons (o := _) rfl (fun K hK => ?_) AllReadyH.nil
        go_simp
        refine hK.out _ _ hH (fun hH2 => ?_)
        clear hK K hH; have hH := hH2; clear hH2
        try simp only [Act.put, List.getElem_toArray, List.getElem_cons_succ, List.getElem_cons_zero, List.setIfInBounds_toArray, List.set_cons_zero, List.set_cons_succ]
        refine wpAnyH_ready (rs := [11]) (by kernel_rfl) (by simp) ?_
        refine AllReadyH.cons (o := _) rfl (fun K hK => ?_) AllReadyH.nil
        go_simp
        have B8 := B8d.setOther (p := ⟨g1, k, none⟩) (by dsimp only; omega) (.float .f32 v1)
        refine hK.out _ _ B8.open.1 (fun hH2 => ?_)
        clear hK K hH hH2
        have op := own_put Od1 k (.float .f32 v1) (by rw [fvals_length]; exact kL1)
        rw [fvals_set] at op
        have O1 := Lib.hid op; clear op
        have O0 := Lib.hid (Od0.set (p := ⟨g1, k, none⟩) (ne_block (h := g1) (by omega)) (.float .f32 v1))
        have O2 := Lib.hid (Od2.set (p := ⟨g1, k, none⟩) (ne_block (h := g1) (by omega)) (.float .f32 v1))
        have HB := Lib.hid (HBd.out.setCell (p := ⟨g1, k, none⟩) (by dsimp only; omega) (.float .f32 v1))
        replace X := X.setOther (p := ⟨g1, k, none⟩) (by dsimp only; omega) (.float .f32 v1); replace R := R.setOther (p := ⟨g1, k, none⟩) (by dsimp only; omega) (.float .f32 v1); replace hsz : _ ≤ (N1b.setCell ⟨g1, k, none⟩ (.float .f32 v1)).heap.size := (by simpa using hsz)
        clear B8d Od0 Od1 Od2 HBd cd cf
        generalize N1b.setCell ⟨g1, k, none⟩ (.float .f32 v1) = N1 at *
        try simp only [Act.put, List.getElem_toArray, List.getElem_cons_succ, List.getElem_cons_zero, List.setIfInBounds_toArray, List.set_cons_zero, List.set_cons_succ]
        refine wpAnyH_done (by kernel_rfl) ?_ _
        obtain ⟨b8c, b8f⟩ := B8.open
        go_upto_region 9 with (fail)
        clear b8c b8f
        obtain ⟨cs, tt, _, hblk, hvv⟩ := own_some O2.out
        obtain ⟨gc, gf⟩ := hblk.open
        have cd : N1.drew.cell? ⟨g2, k, none⟩ = some _ := (gc _).trans (hvv k _ (fvals_get kL2))
        have cf : N1.drew.frozen? ⟨g2, k, none⟩ = false := gf _
        have B8d : Blk N1.drew g8 _ _ := B8
        have Od0 : OwnV N1.drew w.heap.size (some ⟨g0, 0, none⟩) (fvals (L0.set k v0)) := O0.out
        have Od1 : OwnV N1.drew w.heap.size (some ⟨g1, 0, none⟩) (fvals (L1.set k v1)) := O1.out
        have Od2 : OwnV N1.drew w.heap.size (some ⟨g2, 0, none⟩) (fvals L2) := O2.out
        have HBd : Hid (Below w.heap.size w N1.drew) := Lib.hid HB.out.drew
        replace X : Blk N1.drew _ _ _ := X; replace R : Blk N1.drew _ _ _ := R; replace hsz : _ ≤ N1.drew.heap.size := hsz
        clear gc hvv hblk gf O0 O1 O2 HB B8
        refine wp_region_held_drew (S := (fun w' : World => ∀ i, w'.cell? ⟨g8, i, none⟩ = (#[.slice (some ⟨g0, 0, none⟩) n k0, .slice (some ⟨g1, 0, none⟩) n k1, .slice (some ⟨g2, 0, none⟩) n k2] : Array Value)[i]?)) (by kernel_rfl) B8d.open.1 (fun hH => ?_)
        generalize N1.drew = N2a at *
        generalize hzz : L2[k] = zz at *
        refine wpAnyH_take (i := 0) (v := ?_) rfl (by kernel_rfl) (by kernel_rfl) (by kernel_rfl) (fun _ _ _ h => h) (Or.inl ⟨by rfl, ?_⟩) hH ?_
        rotate_left
        · intro w9 hSw; (try dsimp only at hSw); go_simp; try with_reducible rfl
        try simp only [Act.put, List.getElem_toArray, List.getElem_cons_succ, List.getElem_cons_zero, List.setIfInBounds_toArray, List.set_cons_zero, List.set_cons_succ]
        refine wpAnyH_take (i := 1) (v := ?_) rfl (by kernel_rfl) (by kernel_rfl) (by kernel_rfl) (fun _ _ _ h => h) (Or.inl ⟨by rfl, ?_⟩) hH ?_
        rotate_left
        · intro w9 hSw; (try dsimp only at hSw); go_simp; try with_reducible rfl
        try simp only [Act.put, List.getElem_toArray, List.getElem_cons_succ, List.getElem_cons_zero, List.setIfInBounds_toArray, List.set_cons_zero, List.set_cons_succ]
        refine wpAnyH_take (i := 2) (v := ?_) rfl (by kernel_rfl) (by kernel_rfl) (by kernel_rfl) (fun _ _ _ h => h) (Or.inl ⟨by rfl, ?_⟩) hH ?_
        rotate_left
        · intro w9 hSw; (try dsimp only at hSw); go_simp; try with_reducible rfl
        try simp only [Act.put, List.getElem_toArray, List.getElem_cons_succ, List.getElem_cons_zero, List.setIfInBounds_toArray, List.set_cons_zero, List.set_cons_succ]
        refine wpAnyH_take (i := 3) (v := ?_) rfl (by kernel_rfl) (by kernel_rfl) (by kernel_rfl) (fun _ _ _ h => h) (Or.inl ⟨by rfl, ?_⟩) hH ?_
        rotate_left
        · intro w9 hSw; (try dsimp only at hSw); go_simp; try with_reducible rfl
        try simp only [Act.put, List.getElem_toArray, List.getElem_cons_succ, List.getElem_cons_zero, List.setIfInBounds_toArray, List.set_cons_zero, List.set_cons_succ]
        refine wpAnyH_take (i := 4) (v := ?_) rfl (by kernel_rfl) (by kernel_rfl) (by kernel_rfl) (fun _ _ _ h => h) (Or.inl ⟨by rfl, ?_⟩) hH ?_
        rotate_left
        · intro w9 hSw; (try dsimp only at hSw); go_simp; try with_reducible rfl
        try simp only [Act.put, List.getElem_toArray, List.getElem_cons_succ, List.getElem_cons_zero, List.setIfInBounds_toArray, List.set_cons_zero, List.set_cons_succ]
        refine wpAnyH_take (i := 5) (v := ?_) rfl (by kernel_rfl) (by kernel_rfl) (by kernel_rfl) (fun _ _ _ h => h) (Or.inl ⟨by rfl, ?_⟩) hH ?_
        rotate_left
        · intro w9 hSw; (try dsimp only at hSw); go_simp; try with_reducible rfl
        try simp only [Act.put, List.getElem_toArray, List.getElem_cons_succ, List.getElem_cons_zero, List.setIfInBounds_toArray, List.set_cons_zero, List.set_cons_succ]
        refine wpAnyH_take (i := 6) (v := ?_) rfl (by kernel_rfl) (by kernel_rfl) (by kernel_rfl) (fun _ _ _ h => h) (Or.inl ⟨by rfl, ?_⟩) hH ?_
        rotate_left
        · intro w9 hSw; (try dsimp only at hSw); go_simp; try with_reducible rfl
        try simp only [Act.put, List.getElem_toArray, List.getElem_cons_succ, List.getElem_cons_zero, List.setIfInBounds_toArray, List.set_cons_zero, List.set_cons_succ]
        refine wpAnyH_take (i := 8) (v := ?_) rfl (by kernel_rfl) (by kernel_rfl) (by kernel_rfl) (fun _ _ _ h => h) (Or.inl ⟨by rfl, ?_⟩) hH ?_
        rotate_left
        · intro w9 hSw; (try dsimp only at hSw); go_simp; try with_reducible rfl
        try simp only [Act.put, List.getElem_toArray, List.getElem_cons_succ, List.getElem_cons_zero, List.setIfInBounds_toArray, List.set_cons_zero, List.set_cons_succ]
        refine wpAnyH_ready (rs := [7]) (by kernel_rfl) (by simp) ?_
        refine AllReadyH.cons (o := _) rfl (fun K hK => ?_) AllReadyH.nil
        go_simp
        refine hK.out _ _ hH (fun hH2 => ?_)
        clear hK K hH; have hH := hH2; clear hH2
        try simp only [Act.put, List.getElem_toArray, List.getElem_cons_succ, List.getElem_cons_zero, List.setIfInBounds_toArray, List.set_cons_zero, List.set_cons_succ]
        refine wpAnyH_ready (rs := [9]) (by kernel_rfl) (by simp) ?_
        refine AllReadyH.cons (o := _) rfl (fun K hK => ?_) AllReadyH.nil
        refine wp_arith _ rfl _ _ _ _ rfl .f32 _ _ rfl rfl ?_
        intro v2 nn hcv hv2
        have HM2 := Lib.hid hcv; clear hcv
        refine hK.out _ _ (show (fun w' : World => ∀ i, w'.cell? ⟨g8, i, none⟩ = (#[.slice (some ⟨g0, 0, none⟩) n k0, .slice (some ⟨g1, 0, none⟩) n k1, .slice (some ⟨g2, 0, none⟩) n k2] : Array Value)[i]?) _ from hH) (fun hH2 => ?_)
        clear hK K hH; have hH := hH2; clear hH2
        try simp only [Act.put, List.getElem_toArray, List.getElem_cons_succ, List.getElem_cons_zero, List.setIfInBounds_toArray, List.set_cons_zero, List.set_cons_succ]
        replace cd : (N2a.drewN nn).cell? ⟨g2, k, none⟩ = some (.float .f32 zz) := cd
        replace cf : (N2a.drewN nn).frozen? ⟨g2, k, none⟩ = false := cf
        replace B8d : Blk (N2a.drewN nn) g8 _ _ := B8d
        replace Od0 : OwnV (N2a.drewN nn) w.heap.size (some ⟨g0, 0, none⟩) (fvals (L0.set k v0)) := Od0
        replace Od1 : OwnV (N2a.drewN nn) w.heap.size (some ⟨g1, 0, none⟩) (fvals (L1.set k v1)) := Od1
        replace Od2 : OwnV (N2a.drewN nn) w.heap.size (some ⟨g2, 0, none⟩) (fvals L2) := Od2
        replace HBd : Hid (Below w.heap.size w (N2a.drewN nn)) := Lib.hid (below_drewN HBd.out nn)
        replace X : Blk (N2a.drewN nn) _ _ _ := X; replace R : Blk (N2a.drewN nn) _ _ _ := R; replace hsz : _ ≤ (N2a.drewN nn).heap.size := hsz
        generalize N2a.drewN nn = N2b at *
        refine wpAnyH_ready (rs := [10]) (by kernel_rfl) (by simp) ?_
        refine AllReadyH.cons (o := _) rfl (fun K hK => ?_) AllReadyH.nil
        go_simp
        refine hK.out _ _ hH (fun hH2 => ?_)
        clear hK K hH; have hH := hH2; clear hH2
        try simp only [Act.put, List.getElem_toArray, List.getElem_cons_succ, List.getElem_cons_zero, List.setIfInBounds_toArray, List.set_cons_zero, List.set_cons_succ]
        refine wpAnyH_ready (rs := [11]) (by kernel_rfl) (by simp) ?_
        refine AllReadyH.cons (o := _) rfl (fun K hK => ?_) AllReadyH.nil
        go_simp
        have B8 := B8d.setOther (p := ⟨g2, k, none⟩) (by dsimp only; omega) (.float .f32 v2)
        refine hK.out _ _ B8.open.1 (fun hH2 => ?_)
        clear hK K hH hH2
        have op := own_put Od2 k (.float .f32 v2) (by rw [fvals_length]; exact kL2)
        rw [fvals_set] at op
        have O2 := Lib.hid op; clear op
        have O0 := Lib.hid (Od0.set (p := ⟨g2, k, none⟩) (ne_block (h := g2) (by omega)) (.float .f32 v2))
        have O1 := Lib.hid (Od1.set (p := ⟨g2, k, none⟩) (ne_block (h := g2) (by omega)) (.float .f32 v2))
        have HB := Lib.hid (HBd.out.setCell (p := ⟨g2, k, none⟩) (by dsimp only; omega) (.float .f32 v2))
        replace X := X.setOther (p := ⟨g2, k, none⟩) (by dsimp only; omega) (.float .f32 v2); replace R := R.setOther (p := ⟨g2, k, none⟩) (by dsimp only; omega) (.float .f32 v2); replace hsz : _ ≤ (N2b.setCell ⟨g2, k, none⟩ (.float .f32 v2)).heap.size := (by simpa using hsz)
        clear B8d Od0 Od1 Od2 HBd cd cf
        generalize N2b.setCell ⟨g2, k, none⟩ (.float .f32 v2) = N2 at *
        try simp only [Act.put, List.getElem_toArray, List.getElem_cons_succ, List.getElem_cons_zero, List.setIfInBounds_toArray, List.set_cons_zero, List.set_cons_succ]
        refine wpAnyH_done (by kernel_rfl) ?_ _
        go_wp2
        go_roundw
        case rel => exact ⟨k + 1, _, _, _, by omega, by go_num, NX0.out v0 hv0 HM0.out, NX1.out v1 hv1 HM1.out, NX2.out v2 hv2 HM2.out, O0.out, O1.out, O2.out, B8, X, R, HB.out, hsz⟩
        case measure => simp [intOf]; omega
      · skip
        obtain rfl : k = n := by omega
        have i0 := HA0.out L0 M0.out.1; have i1 := HA1.out L1 M1.out.1; have i2 := HA2.out L2 M2.out.1
        have e0 : L0.length = k := by rw [M0.out.1.1]; have := HE0.out; omega
        have e1 : L1.length = k := by rw [M1.out.1.1]; have := HE1.out; omega
        have e2 : L2.length = k := by rw [M2.out.1.1]; have := HE2.out; omega
        obtain ⟨b8c, b8f⟩ := B8.open
        go_wp2_with fail
        have CG := specGiveYes w.heap.size wd hi wb a b ca cb xs ys (some ⟨g0, 0, none⟩) (some ⟨g1, 0, none⟩) (some ⟨g2, 0, none⟩) k0 k1 k2 L0 L1 L2 wr X s1 s2 s3 s4 O0.out.row O1.out.row O2.out.row (few_max i0) (few_max i1) (few_max i2) (HFI.out L0 L1 L2 i0 i1 i2)
        rw [e0, e1, e2] at CG
        refine CG.mono ?_
        rintro r w9 ⟨rfl, q⟩
        clear CG
        have hsz9 := HB.out.size
        replace R := R.later q; replace O0 := Lib.hid (O0.out.later q); replace O1 := Lib.hid (O1.out.later q); replace O2 := Lib.hid (O2.out.later q); replace HB := Lib.hid (HB.out.trans (q.mono HB.out.size))
        clear q b8c b8f
        obtain ⟨Rc, Rf⟩ := R.open
        go_wp2
        refine bodyPost_ret (v := .tuple #[.agg #[.slice (some ⟨g0, 0, none⟩) k k0, .slice (some ⟨g1, 0, none⟩) k k1, .slice (some ⟨g2, 0, none⟩) k k2], .bool true]) (by simp [results, Try.results31, go_sem, Rc]) rfl ⟨some ⟨g0, 0, none⟩, some ⟨g1, 0, none⟩, some ⟨g2, 0, none⟩, k0, k1, k2, L0, L1, L2, by rw [e0, e1, e2], ⟨(((O0.out.set (p := ⟨w.heap.size + 1 + 1, 0, none⟩) (ne_block (h := w.heap.size + 1 + 1) (by omega)) _).set (p := ⟨w.heap.size + 1 + 1, 1, none⟩) (ne_block (h := w.heap.size + 1 + 1) (by omega)) _).set (p := ⟨w.heap.size + 1 + 1, 2, none⟩) (ne_block (h := w.heap.size + 1 + 1) (by omega)) _), (((O1.out.set (p := ⟨w.heap.size + 1 + 1, 0, none⟩) (ne_block (h := w.heap.size + 1 + 1) (by omega)) _).set (p := ⟨w.heap.size + 1 + 1, 1, none⟩) (ne_block (h := w.heap.size + 1 + 1) (by omega)) _).set (p := ⟨w.heap.size + 1 + 1, 2, none⟩) (ne_block (h := w.heap.size + 1 + 1) (by omega)) _), (((O2.out.set (p := ⟨w.heap.size + 1 + 1, 0, none⟩) (ne_block (h := w.heap.size + 1 + 1) (by omega)) _).set (p := ⟨w.heap.size + 1 + 1, 1, none⟩) (ne_block (h := w.heap.size + 1 + 1) (by omega)) _).set (p := ⟨w.heap.size + 1 + 1, 2, none⟩) (ne_block (h := w.heap.size + 1 + 1) (by omega)) _), i0, i1, i2, (((HB.out.setCell (p := ⟨w.heap.size + 1 + 1, 0, none⟩) (by first | omega | (simp <;> omega)) _).setCell (p := ⟨w.heap.size + 1 + 1, 1, none⟩) (by first | omega | (simp <;> omega)) _).setCell (p := ⟨w.heap.size + 1 + 1, 2, none⟩) (by first | omega | (simp <;> omega)) _)⟩⟩

end Go.Proofs.Ytkcododhfliobab
