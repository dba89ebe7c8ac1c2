/- Several texts in one: facts on floats, lists, memory and the functions that the theorems beside this text use. Conditions: none beyond those of each theorem. -/
import Derived.Test.YtedfbaeajofmnabBu5
import Derived.Test.YtedfbaeajofmnabBu7
import Derived.Test.YtedfbaeajofmnabBu13

set_option linter.unusedVariables false

section

namespace Go.Proofs.Ytedfbaeajofmnab
open Go Ieee Go.RowKit
set_option linter.unusedVariables false

theorem mulN (x y : Nat) (w : World) : Calls Try.prog 79 #[.float .f32 x, .float .f32 y] w fun e w' => ∃ v n, e = .returned (.float .f32 v) ∧ w' = w.drewN n ∧ canon .f32 v = fop .mul .f32 (canon .f32 x) (canon .f32 y) ∧ v < 2 ^ 32 := by
  go_enter Try.func79, Try.ntmps79
  go_wp2_with (refine wpList_arith rfl _ _ _ _ _ rfl rfl .f32 _ _ rfl rfl ?_; intro v q hc hv; have HC := Lib.hid hc; clear hc)
  go_ret
  exact ⟨v, _, rfl, rfl, HC.out, hv⟩

def ifO (b : Bool) (m : List (Option Nat)) : List (Option Nat) := if b then m else []
def mulC (xs : List Nat) (by_ : Nat) : List (Option Nat) := xs.map fun x => fop .mul .f32 (canon .f32 x) (canon .f32 by_)
/-- some bits for each number -/
def repC (m : List (Option Nat)) : List Nat := m.map fun x => x.getD 2143289344

theorem nzB_canon {x y : Nat} (h : canon .f32 x = canon .f32 y) : nzB x = nzB y := by
  unfold nzB; rw [order_canon, order_canon .f32 y 0, h]

theorem rep_canon {x : Nat} {o : Option Nat} (h : canon .f32 x = o) : canon .f32 (o.getD 2143289344) = o := by
  cases o with
  | none => decide
  | some a =>
    obtain ⟨rfl, hn⟩ := canon_some h
    exact h

theorem zin_is {p : Int → Int → Bool} {wd : Int} {y : List Nat} {m : List (Option Nat)} (h : Is y m) : zin p wd y = zin p wd (repC m) := by
  have hl : y.length = (repC m).length := by unfold repC; rw [List.length_map, ← h.eq, cl_length]
  unfold zin
  rw [← hl]
  have hcong : ∀ (l : List Nat) (f g : Nat → Bool), (∀ i ∈ l, f i = g i) → l.all f = l.all g := fun l f g hfg => by
    induction l with
    | nil => rfl
    | cons a l ih => rw [List.all_cons, List.all_cons, hfg a (by simp), ih (fun i hi => hfg i (by simp [hi]))]
  apply hcong
  intro i hi
  have hi' : i < y.length := List.mem_range.1 hi
  have e : nzB (y.getD i 0) = nzB ((repC m).getD i 0) := by
    apply nzB_canon
    rw [getD_get hi', getD_get (show i < (repC m).length by omega)]
    have hm : m[i]? = some (canon .f32 y[i]) := by rw [← h.eq]; unfold cl; rw [List.getElem?_map, List.getElem?_eq_getElem hi']; rfl
    have hm2 : i < m.length := (List.getElem?_eq_some_iff.1 hm).1
    have hm3 : m[i] = canon .f32 y[i] := by rw [List.getElem?_eq_getElem hm2] at hm; injection hm
    unfold repC
    rw [List.getElem_map, hm3]
    exact (rep_canon rfl).symm
  rw [e]

theorem fits_is {wd hi : Int} {wb : Bool} {e x y : List Nat} {m0 m1 m2 : List (Option Nat)} (h0 : Is e m0) (h1 : Is x m1) (h2 : Is y m2) : fitsB wd hi wb e x y = fitsB wd hi wb (repC m0) (repC m1) (repC m2) := by
  have l : ∀ {y : List Nat} {m : List (Option Nat)}, Is y m → (repC m).length = y.length := fun h => by unfold repC; rw [List.length_map, ← h.eq, cl_length]
  unfold fitsB
  rw [l h0, l h1, l h2, zin_is h0, zin_is h1, zin_is h2]

/-- what a list is behind k products -/
def MulTo (xs : List Nat) (by_ : Nat) (k : Nat) (L : List Nat) : Prop := L.length = xs.length ∧ (∀ z ∈ L, z < 2 ^ 32) ∧ ∀ j (h : j < L.length) (h' : j < xs.length), j < k → canon .f32 L[j] = fop .mul .f32 (canon .f32 xs[j]) (canon .f32 by_)

theorem mulTo_next {xs : List Nat} {by_ k : Nat} {L : List Nat} {v : Nat} (h : MulTo xs by_ k L) (hk : k < xs.length) (hv : v < 2 ^ 32) (hc : canon .f32 v = fop .mul .f32 (canon .f32 xs[k]) (canon .f32 by_)) : MulTo xs by_ (k + 1) (L.set k v) := by
  obtain ⟨h1, h2, h3⟩ := h
  refine ⟨by rw [List.length_set]; exact h1, fun z hz => ?_, fun j hj hj' hjk => ?_⟩
  · rcases List.mem_or_eq_of_mem_set hz with h' | h'
    · exact h2 _ h'
    · rw [h']; exact hv
  · rw [List.getElem_set]
    split
    · rename_i e; subst e; exact hc
    · exact h3 j (by rw [List.length_set] at hj; exact hj) hj' (by omega)

theorem mulTo_all {xs : List Nat} {by_ k : Nat} {L : List Nat} (h : MulTo xs by_ k L) (hk : xs.length ≤ k) (hf : xs.length ≤ 256) : Is L (mulC xs by_) := by
  obtain ⟨h1, h2, h3⟩ := h
  refine ⟨?_, h2, by omega⟩
  apply List.ext_getElem
  · unfold cl mulC; rw [List.length_map, List.length_map, h1]
  · intro i hi hi'
    unfold cl mulC at *
    rw [List.getElem_map, List.getElem_map]
    exact h3 i (by simpa using hi) (by simpa using hi') (by rw [List.length_map] at hi'; omega)

def scaleB (wd hi : Int) (wb : Bool) (xs ys e x y : List Nat) (by_ : Nat) : Bool := fieldB wd hi wb xs ys e x y && fitsB wd hi wb (repC (mulC e by_)) (repC (mulC x by_)) (repC (mulC y by_))

def GaveO (w : World) (b : Bool) (m0 m1 m2 : List (Option Nat)) (r : Ending) (w' : World) : Prop :=
  ∃ (a0 a1 a2 : Option Addr) (c0 c1 c2 : Nat) (y0 y1 y2 : List Nat), r = .returned (.tuple #[.agg #[.slice a0 y0.length c0, .slice a1 y1.length c1, .slice a2 y2.length c2], .bool b]) ∧ GotField w.heap.size w w' (ifO b m0) (ifO b m1) (ifO b m2) a0 a1 a2 y0 y1 y2
def OwnO (w : World) (b : Bool) (m0 m1 m2 : List (Option Nat)) (r : Ending) (w' : World) : Prop :=
  ∃ (a0 a1 a2 : Option Addr) (c0 c1 c2 : Nat) (y0 y1 y2 : List Nat), r = .returned (.tuple #[.agg #[.slice a0 y0.length c0, .slice a1 y1.length c1, .slice a2 y2.length c2], .bool b]) ∧ OwnField w w' (ifO b m0) (ifO b m1) (ifO b m2) a0 a1 a2 y0 y1 y2

/-- a list behind k products, the rest as it was -/
def MulAt (xs : List Nat) (by_ : Nat) (k : Nat) (L : List Nat) : Prop := MulTo xs by_ k L ∧ ∀ j, k ≤ j → L[j]? = xs[j]?

theorem mulAt_start {xs : List Nat} (by_ : Nat) (h : ∀ z ∈ xs, z < 2 ^ 32) : MulAt xs by_ 0 xs := ⟨⟨rfl, h, fun j _ _ hj => by omega⟩, fun j _ => rfl⟩
theorem mulAt_next {xs : List Nat} {by_ k : Nat} {L : List Nat} {v : Nat} (h : MulAt xs by_ k L) (hk : k < L.length) (hv : v < 2 ^ 32) (hc : canon .f32 v = fop .mul .f32 (canon .f32 L[k]) (canon .f32 by_)) : MulAt xs by_ (k + 1) (L.set k v) := by
  have hx : k < xs.length := by rw [← h.1.1]; exact hk
  have e : L[k] = xs[k] := by
    have := h.2 k (Nat.le_refl _)
    rw [List.getElem?_eq_getElem hk, List.getElem?_eq_getElem hx] at this
    injection this
  rw [e] at hc
  refine ⟨mulTo_next h.1 hx hv hc, fun j hj => ?_⟩
  rw [List.getElem?_set, if_neg (by omega)]
  exact h.2 j (by omega)

end Go.Proofs.Ytedfbaeajofmnab

end

section

namespace Go.Proofs.Ytedfbaeajofmnab
open Go Ieee Go.RowKit
set_option linter.unusedVariables false

def addC (xs zs : List Nat) : List (Option Nat) := List.zipWith (fun x z => fop .add .f32 (canon .f32 x) (canon .f32 z)) xs zs

/-- what a list is behind k sums -/
def AddTo (xs zs : List Nat) (k : Nat) (L : List Nat) : Prop := L.length = xs.length ∧ (∀ z ∈ L, z < 2 ^ 32) ∧ ∀ j (_ : j < L.length) (h' : j < xs.length) (h'' : j < zs.length), j < k → canon .f32 L[j] = fop .add .f32 (canon .f32 xs[j]) (canon .f32 zs[j])

theorem addTo_next {xs zs : List Nat} {k : Nat} {L : List Nat} {v : Nat} (h : AddTo xs zs k L) (hk : k < xs.length) (hz : k < zs.length) (hv : v < 2 ^ 32) (hc : canon .f32 v = fop .add .f32 (canon .f32 xs[k]) (canon .f32 zs[k])) : AddTo xs zs (k + 1) (L.set k v) := by
  obtain ⟨h1, h2, h3⟩ := h
  refine ⟨by rw [List.length_set]; exact h1, fun z hz' => ?_, fun j hj hj' hj'' hjk => ?_⟩
  · rcases List.mem_or_eq_of_mem_set hz' with h' | h'
    · exact h2 _ h'
    · rw [h']; exact hv
  · rw [List.getElem_set]
    split
    · rename_i e; subst e; exact hc
    · exact h3 j (by rw [List.length_set] at hj; exact hj) hj' hj'' (by omega)

theorem addTo_all {xs zs : List Nat} {k : Nat} {L : List Nat} (h : AddTo xs zs k L) (hl : zs.length = xs.length) (hk : xs.length ≤ k) (hf : xs.length ≤ 256) : Is L (addC xs zs) := by
  obtain ⟨h1, h2, h3⟩ := h
  refine ⟨?_, h2, by omega⟩
  apply List.ext_getElem
  · unfold cl addC; rw [List.length_map, List.length_zipWith, h1, hl, Nat.min_self]
  · intro i hi hi'
    unfold cl addC at *
    rw [List.getElem_map, List.getElem_zipWith]
    rw [List.length_zipWith] at hi'
    exact h3 i (by simpa using hi) (by omega) (by omega) (by omega)

theorem row_heldR3a {w u w' : World} {R : Nat} {a : Option Addr} {vs : List Value} {A B C : Prop} (h : RowV w a vs) (hu : Below w.heap.size w u) (hR : w.heap.size ≤ R) (k : A ∧ B ∧ C ∧ u.grownBy w' (some R)) : RowV w' a vs := h.later (hu.grown k.2.2.2 hu.size (fun j hj => by cases hj; exact hR))

set_option maxHeartbeats 2000000 in
theorem implAddLists (a : Option Addr) (ca : Nat) (xs : List Nat) (a2 : Option Addr) (c2 : Nat) (zs : List Nat) (w : World) (ha : RowV w a (fvals xs)) (h2 : RowV w a2 (fvals zs)) (hl : zs.length = xs.length) (hn : xs.length ≤ 256) :
    Calls Try.prog 63 #[.slice a xs.length ca, .slice a2 zs.length c2] w fun e w' => ∃ g L, e = .returned (.slice (some ⟨g, 0, none⟩) L.length L.length) ∧ OwnV w' w.heap.size (some ⟨g, 0, none⟩) (fvals L) ∧ Is L (addC xs zs) ∧ Below w.heap.size w w' := by
  obtain ⟨i0, hi, hz0, hz1, hz2⟩ := info_parts Try.infoF32
  have HT : Hid (∀ L, AddTo xs zs xs.length L → Is L (addC xs zs)) := Lib.hid (fun L h => addTo_all h hl (Nat.le_refl _) hn)
  have hstart : AddTo xs zs 0 (List.replicate xs.length 0) := ⟨by simp, fun z hz => by rw [(List.mem_replicate.1 hz).2]; decide, fun j _ _ _ h => by omega⟩
  generalize hlen : xs.length = n at hn hstart hl ⊢
  have HL := Lib.hid hlen; have HL2 := Lib.hid hl
  rw [hl]
  rw [hlen] at HT
  clear hlen hl
  have hn1 : (n : Int) ≤ 256 := by omega
  have hbytes : i0.bytes * n ≤ 281474976710656 := by rw [hz2]; omega
  have HI := Lib.hid hi
  have HZ0 := Lib.hid hz0
  have HZ1 := Lib.hid hz1
  clear hi hz0 hz1 hz2
  go_enter Try.func63, Try.ntmps63
  go_wp2_with (at_make; refine wpList_make_full _ rfl _ _ 22 rfl w.heap.size 48 i0 (.float .f32 0) 1 Try.underlying22 HI.out HZ0.out HZ1.out .i64 .i64 _ _ n rfl rfl rfl rfl hbytes (by unfold maxLen; omega) (Nat.le_refl _) ?_; intro w1 hown hgrow)
  have hown' : OwnV w1 w.heap.size (some ⟨w.heap.size, 0, none⟩) (fvals (List.replicate n 0)) := by
    have h2 := OwnV.of_owned hown
    rw [show (Value.float FloatKind.f32 0).cells = #[.float .f32 0] from rfl, Nat.mul_one, toList_madeCells_one] at h2
    unfold fvals; rw [List.map_replicate]; exact h2
  have hbel : Below w.heap.size w w1 := (Below.refl w.heap.size w).grown hgrow (Nat.le_refl _) (fun k hk => by cases hk)
  clear hown hgrow
  have HST := Lib.hid hstart; clear hstart
  go_wp2
  go_loopw [6, 7, 13] (fun _ _ i wr => ∃ (k : Nat) (L : List Nat), k ≤ n ∧ i = .int .i64 k ∧ AddTo xs zs k L ∧ OwnV wr w.heap.size (some ⟨w.heap.size, 0, none⟩) (fvals L) ∧ Below w.heap.size w wr) (fun _ _ i _ => n - (intOf i).toNat)
  case atStart => exact ⟨0, _, Nat.zero_le _, rfl, HST.out, hown', hbel⟩
  case round =>
    obtain ⟨k, L, hk, rfl, hM, hown, hb⟩ := hrel
    have HO := Lib.hid hown
    have HW := Lib.hid hb
    have HM := Lib.hid hM
    clear hown hb hown' hbel hM
    by_cases hlt : k < n
    · have k1 : k < xs.length := by rw [HL.out]; exact hlt
      have k2 : k < zs.length := by rw [HL2.out]; exact hlt
      have kL : k < L.length := by rw [HM.out.1]; exact k1
      obtain ⟨b, off, rfl, hc⟩ := ha k _ (fvals_get k1)
      have hc2 : wr.cell? ⟨b, off + k, none⟩ = some (.float .f32 xs[k]) := by
        rw [Below.cell HW.out (p := ⟨b, off + k, none⟩) (lt_of_cell hc)]; exact hc
      obtain ⟨b2, off2, rfl, hd⟩ := h2 k _ (fvals_get k2)
      have hd2 : wr.cell? ⟨b2, off2 + k, none⟩ = some (.float .f32 zs[k]) := by
        rw [Below.cell HW.out (p := ⟨b2, off2 + k, none⟩) (lt_of_cell hd)]; exact hd
      have hki : ((k : Nat) : Int) < (n : Int) := by omega
      clear hc hd
      have HNX := Lib.hid (fun v hv hcv => addTo_next (v := v) HM.out k1 k2 hv hcv)
      generalize xs[k] = x at *
      generalize zs[k] = z at *
      obtain ⟨cs, tt, _, hblk, hvv⟩ := own_some HO.out
      obtain ⟨gc, gf⟩ := hblk.open
      have f0 : wr.cell? ⟨w.heap.size, k, none⟩ = some _ := (gc _).trans (hvv k _ (fvals_get kL))
      clear gc hvv hblk
      go_wp2_with (refine wpList_arith rfl _ _ _ _ _ rfl rfl .f32 _ _ rfl rfl ?_; intro v nq hcv hv; have HN2 := Lib.hid (HNX.out v hv hcv); clear hcv HNX; (have q : Below wr.heap.size wr (wr.drewN nq) := below_drewN (Below.refl _ _) _); (replace HO := Lib.hid (HO.out.later q)); (replace HW := Lib.hid (HW.out.trans (q.mono HW.out.size))); (replace f0 : (wr.drewN nq).cell? ⟨w.heap.size, k, none⟩ = some _ := f0); (replace gf : ∀ i, (wr.drewN nq).frozen? ⟨w.heap.size, i, none⟩ = false := gf); clear q hc2 hd2; generalize wr.drewN nq = w2 at *)
      have hp := own_put HO.out k (.float .f32 v) (by rw [fvals_length]; exact kL)
      rw [fvals_set] at hp
      have HP := Lib.hid hp; clear hp
      go_wp2
      go_roundw
      case rel => exact ⟨k + 1, _, by omega, by go_num, HN2.out, HP.out, HW.out.setCell (p := ⟨w.heap.size, k, none⟩) (Nat.le_refl _) _⟩
      case measure => simp [intOf]; omega
    · obtain rfl : k = n := by omega
      go_wp2
      go_ret
      have hLk : L.length = k := by rw [HM.out.1, HL.out]
      exact ⟨_, L, by rw [hLk]; rfl, HO.out, HT.out L HM.out, HW.out⟩

def addB (wd hi : Int) (wb : Bool) (xs ys e x y e2 x2 y2 : List Nat) : Bool := validB wd hi xs ys && (fitsB wd hi wb e x y && (fitsB wd hi wb e2 x2 y2 && fitsB wd hi wb (repC (addC e e2)) (repC (addC x x2)) (repC (addC y y2))))

/-- a list behind k sums, the rest as it was -/
def AddAt (xs zs : List Nat) (k : Nat) (L : List Nat) : Prop := AddTo xs zs k L ∧ ∀ j, k ≤ j → L[j]? = xs[j]?

theorem addAt_start {xs : List Nat} (zs : List Nat) (h : ∀ z ∈ xs, z < 2 ^ 32) : AddAt xs zs 0 xs := ⟨⟨rfl, h, fun j _ _ _ hj => by omega⟩, fun j _ => rfl⟩
theorem addAt_next {xs zs : List Nat} {k : Nat} {L : List Nat} {v : Nat} (h : AddAt xs zs k L) (hk : k < L.length) (hz : k < zs.length) (hv : v < 2 ^ 32) (hc : canon .f32 v = fop .add .f32 (canon .f32 L[k]) (canon .f32 zs[k])) : AddAt xs zs (k + 1) (L.set k v) := by
  have hx : k < xs.length := by rw [← h.1.1]; exact hk
  have e : L[k] = xs[k] := by
    have := h.2 k (Nat.le_refl _)
    rw [List.getElem?_eq_getElem hk, List.getElem?_eq_getElem hx] at this
    injection this
  rw [e] at hc
  refine ⟨addTo_next h.1 hx hz hv hc, fun j hj => ?_⟩
  rw [List.getElem?_set, if_neg (by omega)]
  exact h.2 j (by omega)

theorem row_cell {w w' : World} {b o : Nat} {zs : List Nat} {k : Nat} (h : RowV w (some ⟨b, o, none⟩) (fvals zs)) (q : Below w.heap.size w w') (hk : k < zs.length) : w'.cell? ⟨b, o + k, none⟩ = some (.float .f32 zs[k]) := by
  obtain ⟨b1, o1, e1, hc⟩ := h k _ (fvals_get hk)
  injection e1 with e1; injection e1 with e1 e2 e3
  subst e1; subst e2
  rw [Below.cell q (p := ⟨b, o + k, none⟩) (lt_of_cell hc)]; exact hc

theorem row_cell_old {w w' : World} {b o : Nat} {zs : List Nat} {k : Nat} (h : RowV w (some ⟨b, o, none⟩) (fvals zs)) (hk : k < zs.length) : b < w.heap.size := by
  obtain ⟨b1, o1, e1, hc⟩ := h k _ (fvals_get hk)
  injection e1 with e1; injection e1 with e1 e2 e3
  subst e1
  exact lt_of_cell hc

end Go.Proofs.Ytedfbaeajofmnab

end
