/- Several texts in one: facts on floats, lists, memory and the functions that the theorems beside this text use. Conditions: none beyond those of each theorem. -/
import Derived.Test.YtedfbaeajofmnaaBu0
import Derived.Deep.RegionHeld3
import Derived.Deep.DeepCutAuto

set_option linter.unusedVariables false

section

namespace Go.Proofs.Ytedfbaeajofmnaa
open Go Ieee Go.RowKit

/-- block g holds these cells, and none of them is frozen -/
def Blk (w : World) (g : Nat) (cs : Array Value) (e : TypeId) : Prop := w.heap[g]? = some (.cells cs e (0, 0))

section
variable {w w' : World} {g B : Nat} {cs : Array Value} {e : TypeId}

theorem Blk.lt (h : Blk w g cs e) : g < w.heap.size := by
  unfold Blk at h
  rcases Nat.lt_or_ge g w.heap.size with a | a
  · exact a
  · rw [Array.getElem?_eq_none a] at h; cases h

theorem Blk.new (w : World) (cs : Array Value) (e : TypeId) : Blk (w.alloc (.cells cs e)) w.heap.size cs e := heap_alloc_new w _

theorem Blk.new1 (w : World) (o : Obj) (cs : Array Value) (e : TypeId) : Blk ((w.alloc o).alloc (.cells cs e)) (w.heap.size + 1) cs e := heap_alloc2_new w o _

theorem Blk.new2 (w : World) (o q : Obj) (cs : Array Value) (e : TypeId) : Blk (((w.alloc o).alloc q).alloc (.cells cs e)) (w.heap.size + 1 + 1) cs e := by
  have := heap_alloc2_new (w.alloc o) q (.cells cs e)
  rwa [show (w.alloc o).heap.size = w.heap.size + 1 by show (w.heap.push o).size = _; simp] at this

theorem Blk.new3 (w : World) (o q r : Obj) (cs : Array Value) (e : TypeId) : Blk ((((w.alloc o).alloc q).alloc r).alloc (.cells cs e)) (w.heap.size + 1 + 1 + 1) cs e := by
  have := Blk.new2 (w.alloc o) q r cs e
  rwa [show (w.alloc o).heap.size = w.heap.size + 1 by show (w.heap.push o).size = _; simp] at this

theorem Blk.alloc (h : Blk w g cs e) (o : Obj) : Blk (w.alloc o) g cs e := (Below.heap_alloc w o g h.lt).trans h

theorem Blk.below (h : Blk w g cs e) (hb : Below B w w') (hg : g < B) : Blk w' g cs e := (hb.block g hg).trans h

theorem Blk.later (h : Blk w g cs e) (hb : Below w.heap.size w w') : Blk w' g cs e := h.below hb h.lt

theorem Blk.drewN (h : Blk w g cs e) (n : Nat) : Blk (w.drewN n) g cs e := h

theorem Blk.set (h : Blk w g cs e) (i : Nat) (v : Value) : Blk (w.setCell ⟨g, i, none⟩ v) g (cs.setIfInBounds i v) e := heap_setCell_same w g i cs e v h

theorem Blk.setOther (h : Blk w g cs e) {p : Addr} (hp : g ≠ p.block) (v : Value) : Blk (w.setCell p v) g cs e := (heap_setCell_other w p g v hp).trans h

theorem Blk.grown (h : Blk w g cs e) {r : Option Nat} (hb : w.grownBy w' r) (hr : some g ≠ r) : Blk w' g cs e := (hb.block g h.lt hr).trans h

theorem Blk.open (h : Blk w g cs e) : (∀ i, w.cell? ⟨g, i, none⟩ = cs[i]?) ∧ (∀ i, w.frozen? ⟨g, i, none⟩ = false) :=
  ⟨fun i => cell_of_row w g i cs e (0, 0) h, fun i => frozen_of_row w g i cs e h⟩
end

/-- the call owns a list: it is nil, or lies at the head of a block from B on that is not frozen -/
def OwnV (w : World) (B : Nat) (a : Option Addr) (vs : List Value) : Prop :=
  (a = none ∧ vs = []) ∨ ∃ (g : Nat) (cs : Array Value) (e : TypeId), a = some ⟨g, 0, none⟩ ∧ B ≤ g ∧ Blk w g cs e ∧ ∀ (i : Nat) (u : Value), vs[i]? = some u → cs[i]? = some u

/-- two lists lie in different blocks -/
def Apart (a b : Option Addr) : Prop := ∀ x y, a = some x → b = some y → x.block ≠ y.block

theorem Apart.symm {a b : Option Addr} (h : Apart a b) : Apart b a := fun x y hx hy => Ne.symm (h y x hy hx)
theorem Apart.nil (b : Option Addr) : Apart none b := fun _ _ h => by cases h

/-- the block in which a list lies -/
def blockOf (a : Option Addr) : Option Nat := a.map (·.block)

section
variable {w w' : World} {B : Nat} {a b : Option Addr} {vs : List Value}

theorem OwnV.row (h : OwnV w B a vs) : RowV w a vs := by
  rcases h with ⟨_, rfl⟩ | ⟨g, cs, e, rfl, _, hb, hv⟩
  · intro i u hu; cases hu
  · intro i u hu
    exact ⟨g, 0, rfl, by rw [Nat.zero_add, hb.open.1 i]; exact hv i u hu⟩

theorem OwnV.later (h : OwnV w B a vs) (hb : Below w.heap.size w w') : OwnV w' B a vs := by
  rcases h with h | ⟨g, cs, e, ha, hg, hc, hv⟩
  · exact .inl h
  · exact .inr ⟨g, cs, e, ha, hg, hc.later hb, hv⟩

theorem OwnV.drewN (h : OwnV w B a vs) (n : Nat) : OwnV (w.drewN n) B a vs := h

theorem OwnV.lower {C : Nat} (h : OwnV w B a vs) (hC : C ≤ B) : OwnV w C a vs := by
  rcases h with h | ⟨g, cs, e, ha, hg, hc⟩
  · exact .inl h
  · exact .inr ⟨g, cs, e, ha, Nat.le_trans hC hg, hc⟩

theorem OwnV.grown (h : OwnV w B a vs) {r : Option Nat} (hb : w.grownBy w' r) (hr : ∀ x, a = some x → some x.block ≠ r) : OwnV w' B a vs := by
  rcases h with h | ⟨g, cs, e, rfl, hg, hc, hv⟩
  · exact .inl h
  · exact .inr ⟨g, cs, e, rfl, hg, hc.grown hb (hr _ rfl), hv⟩

theorem RowV.grown (h : RowV w a vs) {r : Option Nat} (hb : w.grownBy w' r) (hr : ∀ x, a = some x → vs ≠ [] → some x.block ≠ r) : RowV w' a vs := by
  intro i u hu
  obtain ⟨b, off, rfl, hc⟩ := h i u hu
  have hne : vs ≠ [] := by intro e; rw [e] at hu; cases hu
  refine ⟨b, off, rfl, ?_⟩
  rw [World.cell?_of_block (w := w) (w' := w') (a := ⟨b, off + i, none⟩) (hb.block b (lt_of_cell hc) (hr _ rfl hne))]
  exact hc

/-- a list that was there before does not lie in a block of the call's own -/
theorem RowV.old {w0 : World} {B : Nat} {c : Option Addr} {us : List Value} (h : RowV w0 a vs) (hB : w0.heap.size ≤ B) (k : OwnV w B c us) : ∀ x, a = some x → vs ≠ [] → some x.block ≠ blockOf c := by
  intro x hx hne e
  have := h.block_lt x hx hne
  rcases k with ⟨rfl, _⟩ | ⟨g, cs, t, rfl, hg, _⟩
  · cases e
  · unfold blockOf at e
    simp only [Option.map_some, Option.some.injEq] at e
    omega

theorem Apart.block (h : Apart a b) : ∀ x, a = some x → some x.block ≠ blockOf b := by
  intro x hx e
  cases b with
  | none => cases e
  | some y =>
    unfold blockOf at e
    simp only [Option.map_some, Option.some.injEq] at e
    exact h x y hx rfl e

theorem Apart.rowBlock (h : Apart a b) {us : List Value} : ∀ x, a = some x → us ≠ [] → some x.block ≠ blockOf b := fun x hx _ => h.block x hx

/-- a list that lies below a bound is apart from one from that bound on -/
theorem OwnV.apart {w0 : World} {A : Nat} {us : List Value} {c : Option Addr} (h : OwnV w0 A a vs) (hB : w0.heap.size ≤ B) (k : OwnV w B c us) : Apart a c := by
  intro x y hx hy
  rcases h with ⟨rfl, _⟩ | ⟨g, cs, e, rfl, _, hc, _⟩
  · cases hx
  · rcases k with ⟨rfl, _⟩ | ⟨g', cs', e', rfl, hg', _⟩
    · cases hy
    · cases hx; cases hy
      have := hc.lt
      show g ≠ g'
      omega

theorem OwnV.of_heap (h : OwnV w B a vs) (hh : ∀ x, a = some x → w'.heap[x.block]? = w.heap[x.block]?) : OwnV w' B a vs := by
  rcases h with h | ⟨g, cs, e, rfl, hg, hc, hv⟩
  · exact .inl h
  · exact .inr ⟨g, cs, e, rfl, hg, (hh _ rfl).trans hc, hv⟩

theorem OwnV.set (h : OwnV w B a vs) {p : Addr} (hr : ∀ x, a = some x → x.block ≠ p.block) (v : Value) : OwnV (w.setCell p v) B a vs :=
  h.of_heap fun x hx => heap_setCell_other w p x.block v (hr x hx)

theorem OwnV.of_owned {e : TypeId} {n cap : Nat} (h : w.ownsRow B e 1 (.slice a n cap) n vs) : OwnV w B a vs := by
  rcases h.2 with ⟨h', hn⟩ | ⟨g, cap', cur, h', hg, hh, _, _, _, ht⟩
  · simp only [Value.slice.injEq] at h'
    refine .inl ⟨h'.1, ?_⟩
    have := h.1
    rw [hn] at this
    exact List.eq_nil_of_length_eq_zero (by simpa using this)
  · simp only [Value.slice.injEq] at h'
    refine .inr ⟨g, cur, e, h'.1, hg, hh, fun i u hu => ?_⟩
    rw [← ht, List.getElem?_take] at hu
    split at hu
    · simpa using hu
    · cases hu
end

theorem Below.of_grown {w w' : World} {B : Nat} {r : Option Nat} (h : w.grownBy w' r) (hr : ∀ k, r = some k → B ≤ k) (hB : B ≤ w.heap.size) : Below B w w' :=
  (Below.refl B w).grown h hB hr

theorem OwnV.bound {w : World} {B : Nat} {a : Option Addr} {vs : List Value} (h : OwnV w B a vs) : ∀ k, blockOf a = some k → B ≤ k := by
  intro k hk
  rcases h with ⟨rfl, _⟩ | ⟨g, cs, e, rfl, hg, _⟩
  · cases hk
  · unfold blockOf at hk
    simp only [Option.map_some, Option.some.injEq] at hk
    omega

/-! ### Marks -/

def mk (k : Int) : Nat := floatOfInt .f32 k
theorem mk_canon (k : Int) : canon .f32 (mk k) = some (mk k) := by
  unfold mk floatOfInt FloatKind.nearest
  exact canon_of_not (write_notNaN .f32 rfl)

def marks (k : Int) (n : Nat) : List Nat := (List.range n).map fun (i : Nat) => mk (k + (i : Int))
theorem marks_length (k : Int) (n : Nat) : (marks k n).length = n := by simp [marks]
theorem marks_get {k : Int} {n i : Nat} (h : i < n) : (fvals (marks k n))[i]? = some (.float .f32 (mk (k + i))) := by
  rw [fvals_get (by rw [marks_length]; exact h)]
  simp [marks]

/-- a list behind i marks -/
def marked (k : Int) (vs : List Value) (i : Nat) : List Value := ((fvals (marks k vs.length)).take i) ++ vs.drop i
theorem marked_zero (k : Int) (vs : List Value) : marked k vs 0 = vs := by simp [marked]
theorem marked_all (k : Int) (vs : List Value) : marked k vs vs.length = fvals (marks k vs.length) := by
  unfold marked
  rw [List.drop_length, List.append_nil, List.take_of_length_le (by rw [fvals_length, marks_length]; exact Nat.le_refl _)]
theorem marked_length (k : Int) (vs : List Value) (i : Nat) (h : i ≤ vs.length) : (marked k vs i).length = vs.length := by
  unfold marked; simp [fvals_length, marks_length]; omega
theorem marked_next (k : Int) (vs : List Value) (i : Nat) (h : i < vs.length) : (marked k vs i).set i (.float .f32 (mk (k + i))) = marked k vs (i + 1) := by
  have hl := marked_length k vs i (by omega)
  apply List.ext_getElem?
  intro j
  rw [List.getElem?_set]
  by_cases hj : i = j
  · subst hj
    rw [if_pos rfl, hl, if_pos h]
    unfold marked
    rw [List.getElem?_append_left (by simp [fvals_length, marks_length]; omega), List.getElem?_take, if_pos (by omega), marks_get h]
  · rw [if_neg hj]
    unfold marked
    by_cases h2 : j < i
    · rw [List.getElem?_append_left (by simp [fvals_length, marks_length]; omega), List.getElem?_append_left (by simp [fvals_length, marks_length]; omega), List.getElem?_take, List.getElem?_take, if_pos h2, if_pos (by omega)]
    · rw [List.getElem?_append_right (by simp [fvals_length, marks_length]; omega), List.getElem?_append_right (by simp [fvals_length, marks_length]; omega)]
      simp only [List.length_take, fvals_length, marks_length, List.getElem?_drop]
      congr 1
      omega
end Go.Proofs.Ytedfbaeajofmnaa

end

section

namespace Go.Proofs.Ytedfbaeajofmnaa
open Go Ieee Go.RowKit

theorem szF_yes (a : Option Addr) (n ca : Nat) (l : Int) (w : World) (h : (n : Int) ≤ l) (hl : l ≤ 1048576) :
    Calls Try.prog 52 #[.slice a n ca, .int .i64 l] w fun e w' => e = .returned (.int .i64 (l - n)) ∧ w = w' := by
  have h0 : 0 ≤ l - (n : Int) := by omega
  have hn : (n : Int) ≤ 1048576 := by omega
  have hl0 : 0 ≤ l := by omega
  go_enter Try.func52, Try.ntmps52
  go_wp2
  go_ret
  exact ⟨rfl, rfl⟩

theorem szF_no (a : Option Addr) (n ca : Nat) (l : Int) (w : World) (h : l < (n : Int)) (hl : 0 ≤ l) (hl2 : l ≤ 1048576) (hm : n ≤ maxLen) :
    Calls Try.prog 52 #[.slice a n ca, .int .i64 l] w fun e w' => e = .returned (.int .i64 (-1)) ∧ w = w' := by
  unfold maxLen at hm
  have h0 : l - (n : Int) < 0 := by omega
  have hn : (n : Int) ≤ 9223372036854775807 := by omega
  go_enter Try.func52, Try.ntmps52
  go_wp2
  go_ret
  exact ⟨rfl, rfl⟩

/-- what marking leaves -/
def Marked (B : Nat) (a : Option Addr) (k : Int) (n : Nat) (w : World) (e : Ending) (w' : World) : Prop :=
  e = .returned (.int .i64 (k + n)) ∧ OwnV w' B a (fvals (marks k n)) ∧ w.grownBy w' (blockOf a)

theorem grown_refl (w : World) (r : Option Nat) : w.grownBy w r := ⟨rfl, rfl, rfl, Nat.le_refl _, fun _ _ _ => rfl⟩

theorem grown_set {w wr : World} {g : Nat} (h : w.grownBy wr (some g)) (i : Nat) (u : Value) : w.grownBy (wr.setCell ⟨g, i, none⟩ u) (some g) :=
  ⟨h.os, h.tape, h.output, by have := h.size; simp; exact this, fun k hk hne => by
    rw [heap_setCell_other wr ⟨g, i, none⟩ k u (fun e => hne (by rw [e]))]
    exact h.block k hk hne⟩

set_option maxHeartbeats 1000000 in
theorem markF (B : Nat) (a : Option Addr) (ca : Nat) (vs : List Value) (k : Int) (w : World) (hr : OwnV w B a vs) (hk : 0 ≤ k) (hn : k + vs.length ≤ 16777216) :
    Calls Try.prog 64 #[.slice a vs.length ca, .int .i64 k] w (Marked B a k vs.length w) := by
  rcases hr with ⟨rfl, rfl⟩ | ⟨g, cs, t, rfl, hg, hb, hv⟩
  · go_enter Try.func64, Try.ntmps64
    go_wp2
    refine wp_loop_rounds 1 ?_
    rw [rounds_succ]
    go_wp2
    go_ret
    exact ⟨by simp, .inl ⟨rfl, by simp [marks, fvals]⟩, grown_refl _ _⟩
  · generalize hlen : vs.length = n at hn ⊢
    have HL := Lib.hid hlen
    have HV := Lib.hid hv
    clear hlen hv
    go_enter Try.func64, Try.ntmps64
    go_wp2
    go_loopw [1, 5] (fun q i wr => ∃ j : Nat, j ≤ n ∧ i = .int .i64 j ∧ q = .int .i64 (k + j) ∧ (∃ cr, Blk wr g cr t ∧ ∀ (i : Nat) (u : Value), (marked k vs j)[i]? = some u → cr[i]? = some u) ∧ w.grownBy wr (some g)) (fun _ i _ => n - (intOf i).toNat)
    case atStart => exact ⟨0, Nat.zero_le _, rfl, by simp, ⟨cs, hb, by rw [marked_zero]; exact HV.out⟩, grown_refl _ _⟩
    case round =>
      obtain ⟨j, hj, rfl, rfl, ⟨cr, hcr, hvr⟩, hgr⟩ := hrel
      have HVR := Lib.hid hvr
      have HGR := Lib.hid hgr
      clear hvr hgr
      by_cases hlt : j < n
      · have hml := marked_length k vs j (by rw [HL.out]; exact hj)
        obtain ⟨old, ho⟩ : ∃ u, (marked k vs j)[j]? = some u := ⟨_, List.getElem?_eq_getElem (by rw [hml, HL.out]; exact hlt)⟩
        have hold := HVR.out j _ ho
        have hsz : j < cr.size := (Array.getElem?_eq_some_iff.1 hold).1
        have hc := hcr.open.1 j
        have hf := hcr.open.2 j
        rw [hold] at hc
        have HM := Lib.hid (marked_next k vs j (by rw [HL.out]; exact hlt))
        have HS := Lib.hid (hcr.set j (.float .f32 (floatOfInt .f32 (k + j))))
        have HZ := Lib.hid hsz
        clear hold hml hsz ho
        go_wp2
        go_roundw
        case rel =>
          refine ⟨j + 1, by omega, by go_num, by go_num, ⟨_, HS.out, fun i u hu => ?_⟩, grown_set HGR.out _ _⟩
          rw [← HM.out, List.getElem?_set] at hu
          rw [Array.getElem?_setIfInBounds]
          by_cases he : j = i
          · subst he
            rw [if_pos rfl] at hu ⊢
            rw [if_pos HZ.out]
            split at hu
            · exact hu
            · cases hu
          · rw [if_neg he] at hu ⊢
            exact HVR.out i u hu
        case measure => simp [intOf]; omega
      · obtain rfl : j = n := by omega
        go_wp2
        go_ret
        refine ⟨rfl, .inr ⟨g, cr, t, rfl, hg, hcr, ?_⟩, HGR.out⟩
        have := HVR.out
        rw [← HL.out, marked_all] at this
        rw [← HL.out]; exact this

set_option maxHeartbeats 1000000 in
theorem heldF (a : Option Addr) (ca n : Nat) (k : Int) (w : World) (hr : RowV w a (fvals (marks k n))) (hk : 0 ≤ k) (hn : k + n ≤ 16777216) :
    Calls Try.prog 65 #[.slice a n ca, .int .i64 k] w fun e w' => e = .returned (.int .i64 (k + n)) ∧ w = w' := by
  go_enter Try.func65, Try.ntmps65
  go_wp2
  go_loop [1, 5] (fun q i => ∃ j : Nat, j ≤ n ∧ i = .int .i64 j ∧ q = .int .i64 (k + j)) (fun _ i => n - (intOf i).toNat)
  case atStart => exact ⟨0, Nat.zero_le _, rfl, by simp⟩
  case round =>
    obtain ⟨j, hj, rfl, rfl⟩ := hrel
    by_cases hlt : j < n
    · obtain ⟨b, off, rfl, hc⟩ := hr j _ (marks_get hlt)
      have hcmp : (FloatKind.f32.format.order (mk (k + j)) (floatOfInt .f32 (k + j)) != some .eq) = false := by
        have h1 : isN .f32 (mk (k + j)) = false := by
          have := mk_canon (k + j)
          exact (canon_some this).2
        show (FloatKind.f32.format.order (mk (k + j)) (mk (k + j)) != some .eq) = false
        rw [neq_self, h1]
      go_wp2
      go_round
      case rel => exact ⟨j + 1, by omega, by go_num, by go_num⟩
      case measure => simp [intOf]; omega
    · obtain rfl : j = n := by omega
      go_wp2
      go_ret
      exact ⟨rfl, rfl⟩
end Go.Proofs.Ytedfbaeajofmnaa

end

section

namespace Go.Proofs.Ytedfbaeajofmnaa
open Go Ieee Go.RowKit

theorem ret_i64 {a b : Int} (h : a = b) : Ending.returned (.int .i64 a) = .returned (.int .i64 b) := by rw [h]

theorem apart_ne {g h : Nat} (e : g ≠ h) : Apart (some ⟨g, 0, none⟩) (some ⟨h, 0, none⟩) := fun x y hx hy => by cases hx; cases hy; exact e

theorem ne_block {g h : Nat} (e : g ≠ h) : ∀ x, some (⟨g, 0, none⟩ : Addr) = some x → x.block ≠ h := fun x hx => by cases hx; exact e

theorem copyF (a : Option Addr) (cap : Nat) (xs : List Nat) (w : World) (hr : RowV w a (fvals xs)) (hn : xs.length ≤ 1048576) :
    Calls Try.prog 55 #[.slice a xs.length cap] w fun e w' => e = .returned (.slice (some ⟨w.heap.size, 0, none⟩) xs.length xs.length) ∧ OwnV w' w.heap.size (some ⟨w.heap.size, 0, none⟩) (fvals xs) ∧ Below w.heap.size w w' ∧ w.heap.size < w'.heap.size :=
  (toF32s a cap xs w hr hn).mono fun e w' ⟨he, ho, hb⟩ => by
    have h : OwnV w' w.heap.size (some ⟨w.heap.size, 0, none⟩) (fvals xs) := .of_owned ho
    refine ⟨he, h, hb, ?_⟩
    rcases h with ⟨h, _⟩ | ⟨g, cs, t, h, _, hc, _⟩
    · cases h
    · cases h; exact hc.lt
end Go.Proofs.Ytedfbaeajofmnaa

end

section

namespace Go.Proofs.Ytedfbaeajofmnaa
open Go Ieee Go.RowKit

/-- two blocks as they were, and nothing of what was there is another -/
def Kept2 (u : World) (g1 g2 : Nat) (c1 c2 : Array Value) (w' : World) : Prop := (∀ i, w'.cell? ⟨g1, i, none⟩ = c1[i]?) ∧ (∀ i, w'.cell? ⟨g2, i, none⟩ = c2[i]?) ∧ Below u.heap.size u w'

section
variable {u w' w'' : World} {g1 g2 : Nat} {c1 c2 : Array Value}

theorem kept_start {t1 t2 : TypeId} (x : Blk u g1 c1 t1) (y : Blk u g2 c2 t2) : (∀ i, u.drew.cell? ⟨g1, i, none⟩ = c1[i]?) ∧ (∀ i, u.drew.cell? ⟨g2, i, none⟩ = c2[i]?) ∧ Below u.heap.size u u.drew :=
  ⟨x.open.1, y.open.1, (Below.refl _ _).drew⟩

theorem kept_later {t1 t2 : TypeId} (x : Blk u g1 c1 t1) (y : Blk u g2 c2 t2) (h : (∀ i, w'.cell? ⟨g1, i, none⟩ = c1[i]?) ∧ (∀ i, w'.cell? ⟨g2, i, none⟩ = c2[i]?) ∧ Below u.heap.size u w') (b : Below w'.heap.size w' w'') :
    (∀ i, w''.cell? ⟨g1, i, none⟩ = c1[i]?) ∧ (∀ i, w''.cell? ⟨g2, i, none⟩ = c2[i]?) ∧ Below u.heap.size u w'' := by
  have B := h.2.2.trans (b.mono h.2.2.size)
  exact ⟨(x.below B x.lt).open.1, (y.below B y.lt).open.1, B⟩

theorem row_kept {w : World} {a : Option Addr} {vs : List Value} {A B : Prop} (h : RowV w a vs) (hu : Below w.heap.size w u) (k : A ∧ B ∧ Below u.heap.size u w') : RowV w' a vs := h.later (hu.trans (k.2.2.mono hu.size))
end
end Go.Proofs.Ytedfbaeajofmnaa

end

section

namespace Go.Proofs.Ytedfbaeajofmnaa
open Go Ieee Go.RowKit

theorem below_new (u : World) (o : Obj) : Below u.heap.size u (u.alloc o) := (Below.refl _ _).alloc (Nat.le_refl _) _

/-- a box reads as it was in a later world -/
theorem Blk.cells {u w' : World} {g : Nat} {cs : Array Value} {t : TypeId} (x : Blk u g cs t) (b : Below u.heap.size u w') : ∀ i, w'.cell? ⟨g, i, none⟩ = cs[i]? := (x.below b x.lt).open.1

theorem below_drew (u : World) : Below u.heap.size u u.drew := (Below.refl _ _).drew

theorem below_next {u w' w'' : World} (h : Below u.heap.size u w') (b : Below w'.heap.size w' w'') : Below u.heap.size u w'' := h.trans (b.mono h.size)

theorem below_set {u w' : World} (h : Below u.heap.size u w') (p : Addr) (hp : u.heap.size ≤ p.block) (v : Value) : Below u.heap.size u (w'.setCell p v) := h.setCell hp v

/-- all that a place can be: below a bound, or from one on -/
def Span (lo hi : Nat) (a : Option Addr) : Prop := ∀ x, a = some x → lo ≤ x.block ∧ x.block < hi

theorem OwnV.span {w : World} {B : Nat} {a : Option Addr} {vs : List Value} (h : OwnV w B a vs) : Span B w.heap.size a := by
  intro x hx
  rcases h with ⟨rfl, _⟩ | ⟨g, cs, e, rfl, hg, hc, _⟩
  · cases hx
  · cases hx; exact ⟨hg, hc.lt⟩

theorem Span.ne {lo hi j : Nat} {a : Option Addr} (h : Span lo hi a) (hj : j < lo ∨ hi ≤ j) : some j ≠ blockOf a := by
  intro e
  cases a with
  | none => cases e
  | some x =>
    have := h x rfl
    unfold blockOf at e
    simp only [Option.map_some, Option.some.injEq] at e
    omega

theorem Span.apart {lo hi lo' hi' : Nat} {a b : Option Addr} (h : Span lo hi a) (k : Span lo' hi' b) (hh : hi ≤ lo' ∨ hi' ≤ lo) : Apart a b := fun x y hx hy => by
  have := h x hx
  have := k y hy
  omega

/-- blocks outside a range are as they were -/
def Out (w w' : World) (lo hi : Nat) : Prop := w.heap.size ≤ w'.heap.size ∧ ∀ j, j < w.heap.size → (j < lo ∨ hi ≤ j) → w'.heap[j]? = w.heap[j]?

theorem Blk.out {w w' : World} {g lo hi : Nat} {cs : Array Value} {t : TypeId} (h : Blk w g cs t) (o : Out w w' lo hi) (hg : g < lo ∨ hi ≤ g) : Blk w' g cs t := (o.2 g h.lt hg).trans h

theorem OwnV.outside {w w' : World} {B lo hi l k : Nat} {a : Option Addr} {vs : List Value} (h : OwnV w B a vs) (o : Out w w' lo hi) (hs : Span l k a) (hd : k ≤ lo ∨ hi ≤ l) : OwnV w' B a vs := by
  rcases h with h | ⟨g, cs, e, rfl, hg, hc, hv⟩
  · exact .inl h
  · exact .inr ⟨g, cs, e, rfl, hg, hc.out o (by have := hs _ rfl; dsimp only at this; omega), hv⟩

/-- a list lies below a bound -/
def Low (a : Option Addr) (vs : List Value) (hi : Nat) : Prop := ∀ x, a = some x → vs ≠ [] → x.block < hi

theorem RowV.low {w : World} {a : Option Addr} {vs : List Value} (h : RowV w a vs) : Low a vs w.heap.size := h.block_lt

theorem RowV.outside {w w' : World} {lo hi k : Nat} {a : Option Addr} {vs : List Value} (h : RowV w a vs) (o : Out w w' lo hi) (hs : Low a vs k) (hd : k ≤ lo) : RowV w' a vs := by
  intro i u hu
  obtain ⟨b, off, rfl, hc⟩ := h i u hu
  have hne : vs ≠ [] := by intro e; rw [e] at hu; cases hu
  have := hs _ rfl hne
  dsimp only at this
  refine ⟨b, off, rfl, ?_⟩
  rw [World.cell?_of_block (w := w) (w' := w') (a := ⟨b, off + i, none⟩) (o.2 b (lt_of_cell hc) (by omega))]
  exact hc

theorem row_held1 {w u w' : World} {a : Option Addr} {vs : List Value} {A : Prop} (h : RowV w a vs) (hu : Below w.heap.size w u) (k : A ∧ Below u.heap.size u w') : RowV w' a vs := h.later (hu.trans (k.2.mono hu.size))
theorem row_held2 {w u w' : World} {a : Option Addr} {vs : List Value} {A B : Prop} (h : RowV w a vs) (hu : Below w.heap.size w u) (k : A ∧ B ∧ Below u.heap.size u w') : RowV w' a vs := h.later (hu.trans (k.2.2.mono hu.size))
theorem row_held3 {w u w' : World} {a : Option Addr} {vs : List Value} {A B C : Prop} (h : RowV w a vs) (hu : Below w.heap.size w u) (k : A ∧ B ∧ C ∧ Below u.heap.size u w') : RowV w' a vs := h.later (hu.trans (k.2.2.2.mono hu.size))

theorem cell_on {u w' : World} {p : Addr} {v : Value} (h : u.cell? p = some v) (b : Below u.heap.size u w') : w'.cell? p = some v := by
  rw [Below.cell b (lt_of_cell h)]; exact h

theorem keep0c1_start {u : World} {p0 : Addr} {v0 : Value} (y0 : u.cell? p0 = some v0) : u.drew.cell? p0 = some v0 ∧ Below u.heap.size u u.drew :=
  ⟨y0, (Below.refl _ _).drew⟩

theorem keep0c1_later {u w' w'' : World} {p0 : Addr} {v0 : Value} (y0 : u.cell? p0 = some v0) (h : w'.cell? p0 = some v0 ∧ Below u.heap.size u w') (b : Below w'.heap.size w' w'') : w''.cell? p0 = some v0 ∧ Below u.heap.size u w'' := by
  have B := h.2.trans (b.mono h.2.size)
  exact ⟨(cell_on y0 B), B⟩

theorem keep0c1_set {u w' : World} {p0 : Addr} {v0 : Value} (y0 : u.cell? p0 = some v0) (h : w'.cell? p0 = some v0 ∧ Below u.heap.size u w') (p : Addr) (v : Value) (hp : u.heap.size ≤ p.block) : (w'.setCell p v).cell? p0 = some v0 ∧ Below u.heap.size u (w'.setCell p v) := by
  have B := h.2.setCell hp v
  exact ⟨(cell_on y0 B), B⟩

theorem keep0c2_start {u : World} {p0 p1 : Addr} {v0 v1 : Value} (y0 : u.cell? p0 = some v0) (y1 : u.cell? p1 = some v1) : u.drew.cell? p0 = some v0 ∧ u.drew.cell? p1 = some v1 ∧ Below u.heap.size u u.drew :=
  ⟨y0, y1, (Below.refl _ _).drew⟩

theorem keep0c2_later {u w' w'' : World} {p0 p1 : Addr} {v0 v1 : Value} (y0 : u.cell? p0 = some v0) (y1 : u.cell? p1 = some v1) (h : w'.cell? p0 = some v0 ∧ w'.cell? p1 = some v1 ∧ Below u.heap.size u w') (b : Below w'.heap.size w' w'') : w''.cell? p0 = some v0 ∧ w''.cell? p1 = some v1 ∧ Below u.heap.size u w'' := by
  have B := h.2.2.trans (b.mono h.2.2.size)
  exact ⟨(cell_on y0 B), (cell_on y1 B), B⟩

theorem keep0c2_set {u w' : World} {p0 p1 : Addr} {v0 v1 : Value} (y0 : u.cell? p0 = some v0) (y1 : u.cell? p1 = some v1) (h : w'.cell? p0 = some v0 ∧ w'.cell? p1 = some v1 ∧ Below u.heap.size u w') (p : Addr) (v : Value) (hp : u.heap.size ≤ p.block) : (w'.setCell p v).cell? p0 = some v0 ∧ (w'.setCell p v).cell? p1 = some v1 ∧ Below u.heap.size u (w'.setCell p v) := by
  have B := h.2.2.setCell hp v
  exact ⟨(cell_on y0 B), (cell_on y1 B), B⟩

theorem keep0c3_start {u : World} {p0 p1 p2 : Addr} {v0 v1 v2 : Value} (y0 : u.cell? p0 = some v0) (y1 : u.cell? p1 = some v1) (y2 : u.cell? p2 = some v2) : u.drew.cell? p0 = some v0 ∧ u.drew.cell? p1 = some v1 ∧ u.drew.cell? p2 = some v2 ∧ Below u.heap.size u u.drew :=
  ⟨y0, y1, y2, (Below.refl _ _).drew⟩

theorem keep0c3_later {u w' w'' : World} {p0 p1 p2 : Addr} {v0 v1 v2 : Value} (y0 : u.cell? p0 = some v0) (y1 : u.cell? p1 = some v1) (y2 : u.cell? p2 = some v2) (h : w'.cell? p0 = some v0 ∧ w'.cell? p1 = some v1 ∧ w'.cell? p2 = some v2 ∧ Below u.heap.size u w') (b : Below w'.heap.size w' w'') : w''.cell? p0 = some v0 ∧ w''.cell? p1 = some v1 ∧ w''.cell? p2 = some v2 ∧ Below u.heap.size u w'' := by
  have B := h.2.2.2.trans (b.mono h.2.2.2.size)
  exact ⟨(cell_on y0 B), (cell_on y1 B), (cell_on y2 B), B⟩

theorem keep0c3_set {u w' : World} {p0 p1 p2 : Addr} {v0 v1 v2 : Value} (y0 : u.cell? p0 = some v0) (y1 : u.cell? p1 = some v1) (y2 : u.cell? p2 = some v2) (h : w'.cell? p0 = some v0 ∧ w'.cell? p1 = some v1 ∧ w'.cell? p2 = some v2 ∧ Below u.heap.size u w') (p : Addr) (v : Value) (hp : u.heap.size ≤ p.block) : (w'.setCell p v).cell? p0 = some v0 ∧ (w'.setCell p v).cell? p1 = some v1 ∧ (w'.setCell p v).cell? p2 = some v2 ∧ Below u.heap.size u (w'.setCell p v) := by
  have B := h.2.2.2.setCell hp v
  exact ⟨(cell_on y0 B), (cell_on y1 B), (cell_on y2 B), B⟩

theorem keep1_start {u : World} {g0 : Nat} {c0 : Array Value} {t0 : TypeId} (x0 : Blk u g0 c0 t0) : (∀ i, u.drew.cell? ⟨g0, i, none⟩ = c0[i]?) ∧ Below u.heap.size u u.drew :=
  ⟨x0.open.1, (Below.refl _ _).drew⟩

theorem keep1_later {u w' w'' : World} {g0 : Nat} {c0 : Array Value} {t0 : TypeId} (x0 : Blk u g0 c0 t0) (h : (∀ i, w'.cell? ⟨g0, i, none⟩ = c0[i]?) ∧ Below u.heap.size u w') (b : Below w'.heap.size w' w'') : (∀ i, w''.cell? ⟨g0, i, none⟩ = c0[i]?) ∧ Below u.heap.size u w'' := by
  have B := h.2.trans (b.mono h.2.size)
  exact ⟨(x0.below B x0.lt).open.1, B⟩

theorem keep1_set {u w' : World} {g0 : Nat} {c0 : Array Value} {t0 : TypeId} (x0 : Blk u g0 c0 t0) (h : (∀ i, w'.cell? ⟨g0, i, none⟩ = c0[i]?) ∧ Below u.heap.size u w') (p : Addr) (v : Value) (hp : u.heap.size ≤ p.block) : (∀ i, (w'.setCell p v).cell? ⟨g0, i, none⟩ = c0[i]?) ∧ Below u.heap.size u (w'.setCell p v) := by
  have B := h.2.setCell hp v
  exact ⟨(x0.below B x0.lt).open.1, B⟩

theorem keep1c1_start {u : World} {g0 : Nat} {c0 : Array Value} {t0 : TypeId} {p0 : Addr} {v0 : Value} (x0 : Blk u g0 c0 t0) (y0 : u.cell? p0 = some v0) : (∀ i, u.drew.cell? ⟨g0, i, none⟩ = c0[i]?) ∧ u.drew.cell? p0 = some v0 ∧ Below u.heap.size u u.drew :=
  ⟨x0.open.1, y0, (Below.refl _ _).drew⟩

theorem keep1c1_later {u w' w'' : World} {g0 : Nat} {c0 : Array Value} {t0 : TypeId} {p0 : Addr} {v0 : Value} (x0 : Blk u g0 c0 t0) (y0 : u.cell? p0 = some v0) (h : (∀ i, w'.cell? ⟨g0, i, none⟩ = c0[i]?) ∧ w'.cell? p0 = some v0 ∧ Below u.heap.size u w') (b : Below w'.heap.size w' w'') : (∀ i, w''.cell? ⟨g0, i, none⟩ = c0[i]?) ∧ w''.cell? p0 = some v0 ∧ Below u.heap.size u w'' := by
  have B := h.2.2.trans (b.mono h.2.2.size)
  exact ⟨(x0.below B x0.lt).open.1, (cell_on y0 B), B⟩

theorem keep1c1_set {u w' : World} {g0 : Nat} {c0 : Array Value} {t0 : TypeId} {p0 : Addr} {v0 : Value} (x0 : Blk u g0 c0 t0) (y0 : u.cell? p0 = some v0) (h : (∀ i, w'.cell? ⟨g0, i, none⟩ = c0[i]?) ∧ w'.cell? p0 = some v0 ∧ Below u.heap.size u w') (p : Addr) (v : Value) (hp : u.heap.size ≤ p.block) : (∀ i, (w'.setCell p v).cell? ⟨g0, i, none⟩ = c0[i]?) ∧ (w'.setCell p v).cell? p0 = some v0 ∧ Below u.heap.size u (w'.setCell p v) := by
  have B := h.2.2.setCell hp v
  exact ⟨(x0.below B x0.lt).open.1, (cell_on y0 B), B⟩

theorem keep1c2_start {u : World} {g0 : Nat} {c0 : Array Value} {t0 : TypeId} {p0 p1 : Addr} {v0 v1 : Value} (x0 : Blk u g0 c0 t0) (y0 : u.cell? p0 = some v0) (y1 : u.cell? p1 = some v1) : (∀ i, u.drew.cell? ⟨g0, i, none⟩ = c0[i]?) ∧ u.drew.cell? p0 = some v0 ∧ u.drew.cell? p1 = some v1 ∧ Below u.heap.size u u.drew :=
  ⟨x0.open.1, y0, y1, (Below.refl _ _).drew⟩

theorem keep1c2_later {u w' w'' : World} {g0 : Nat} {c0 : Array Value} {t0 : TypeId} {p0 p1 : Addr} {v0 v1 : Value} (x0 : Blk u g0 c0 t0) (y0 : u.cell? p0 = some v0) (y1 : u.cell? p1 = some v1) (h : (∀ i, w'.cell? ⟨g0, i, none⟩ = c0[i]?) ∧ w'.cell? p0 = some v0 ∧ w'.cell? p1 = some v1 ∧ Below u.heap.size u w') (b : Below w'.heap.size w' w'') : (∀ i, w''.cell? ⟨g0, i, none⟩ = c0[i]?) ∧ w''.cell? p0 = some v0 ∧ w''.cell? p1 = some v1 ∧ Below u.heap.size u w'' := by
  have B := h.2.2.2.trans (b.mono h.2.2.2.size)
  exact ⟨(x0.below B x0.lt).open.1, (cell_on y0 B), (cell_on y1 B), B⟩

theorem keep1c2_set {u w' : World} {g0 : Nat} {c0 : Array Value} {t0 : TypeId} {p0 p1 : Addr} {v0 v1 : Value} (x0 : Blk u g0 c0 t0) (y0 : u.cell? p0 = some v0) (y1 : u.cell? p1 = some v1) (h : (∀ i, w'.cell? ⟨g0, i, none⟩ = c0[i]?) ∧ w'.cell? p0 = some v0 ∧ w'.cell? p1 = some v1 ∧ Below u.heap.size u w') (p : Addr) (v : Value) (hp : u.heap.size ≤ p.block) : (∀ i, (w'.setCell p v).cell? ⟨g0, i, none⟩ = c0[i]?) ∧ (w'.setCell p v).cell? p0 = some v0 ∧ (w'.setCell p v).cell? p1 = some v1 ∧ Below u.heap.size u (w'.setCell p v) := by
  have B := h.2.2.2.setCell hp v
  exact ⟨(x0.below B x0.lt).open.1, (cell_on y0 B), (cell_on y1 B), B⟩

theorem keep1c3_start {u : World} {g0 : Nat} {c0 : Array Value} {t0 : TypeId} {p0 p1 p2 : Addr} {v0 v1 v2 : Value} (x0 : Blk u g0 c0 t0) (y0 : u.cell? p0 = some v0) (y1 : u.cell? p1 = some v1) (y2 : u.cell? p2 = some v2) : (∀ i, u.drew.cell? ⟨g0, i, none⟩ = c0[i]?) ∧ u.drew.cell? p0 = some v0 ∧ u.drew.cell? p1 = some v1 ∧ u.drew.cell? p2 = some v2 ∧ Below u.heap.size u u.drew :=
  ⟨x0.open.1, y0, y1, y2, (Below.refl _ _).drew⟩

theorem keep1c3_later {u w' w'' : World} {g0 : Nat} {c0 : Array Value} {t0 : TypeId} {p0 p1 p2 : Addr} {v0 v1 v2 : Value} (x0 : Blk u g0 c0 t0) (y0 : u.cell? p0 = some v0) (y1 : u.cell? p1 = some v1) (y2 : u.cell? p2 = some v2) (h : (∀ i, w'.cell? ⟨g0, i, none⟩ = c0[i]?) ∧ w'.cell? p0 = some v0 ∧ w'.cell? p1 = some v1 ∧ w'.cell? p2 = some v2 ∧ Below u.heap.size u w') (b : Below w'.heap.size w' w'') : (∀ i, w''.cell? ⟨g0, i, none⟩ = c0[i]?) ∧ w''.cell? p0 = some v0 ∧ w''.cell? p1 = some v1 ∧ w''.cell? p2 = some v2 ∧ Below u.heap.size u w'' := by
  have B := h.2.2.2.2.trans (b.mono h.2.2.2.2.size)
  exact ⟨(x0.below B x0.lt).open.1, (cell_on y0 B), (cell_on y1 B), (cell_on y2 B), B⟩

theorem keep1c3_set {u w' : World} {g0 : Nat} {c0 : Array Value} {t0 : TypeId} {p0 p1 p2 : Addr} {v0 v1 v2 : Value} (x0 : Blk u g0 c0 t0) (y0 : u.cell? p0 = some v0) (y1 : u.cell? p1 = some v1) (y2 : u.cell? p2 = some v2) (h : (∀ i, w'.cell? ⟨g0, i, none⟩ = c0[i]?) ∧ w'.cell? p0 = some v0 ∧ w'.cell? p1 = some v1 ∧ w'.cell? p2 = some v2 ∧ Below u.heap.size u w') (p : Addr) (v : Value) (hp : u.heap.size ≤ p.block) : (∀ i, (w'.setCell p v).cell? ⟨g0, i, none⟩ = c0[i]?) ∧ (w'.setCell p v).cell? p0 = some v0 ∧ (w'.setCell p v).cell? p1 = some v1 ∧ (w'.setCell p v).cell? p2 = some v2 ∧ Below u.heap.size u (w'.setCell p v) := by
  have B := h.2.2.2.2.setCell hp v
  exact ⟨(x0.below B x0.lt).open.1, (cell_on y0 B), (cell_on y1 B), (cell_on y2 B), B⟩

theorem keep2_start {u : World} {g0 g1 : Nat} {c0 c1 : Array Value} {t0 t1 : TypeId} (x0 : Blk u g0 c0 t0) (x1 : Blk u g1 c1 t1) : (∀ i, u.drew.cell? ⟨g0, i, none⟩ = c0[i]?) ∧ (∀ i, u.drew.cell? ⟨g1, i, none⟩ = c1[i]?) ∧ Below u.heap.size u u.drew :=
  ⟨x0.open.1, x1.open.1, (Below.refl _ _).drew⟩

theorem keep2_later {u w' w'' : World} {g0 g1 : Nat} {c0 c1 : Array Value} {t0 t1 : TypeId} (x0 : Blk u g0 c0 t0) (x1 : Blk u g1 c1 t1) (h : (∀ i, w'.cell? ⟨g0, i, none⟩ = c0[i]?) ∧ (∀ i, w'.cell? ⟨g1, i, none⟩ = c1[i]?) ∧ Below u.heap.size u w') (b : Below w'.heap.size w' w'') : (∀ i, w''.cell? ⟨g0, i, none⟩ = c0[i]?) ∧ (∀ i, w''.cell? ⟨g1, i, none⟩ = c1[i]?) ∧ Below u.heap.size u w'' := by
  have B := h.2.2.trans (b.mono h.2.2.size)
  exact ⟨(x0.below B x0.lt).open.1, (x1.below B x1.lt).open.1, B⟩

theorem keep2_set {u w' : World} {g0 g1 : Nat} {c0 c1 : Array Value} {t0 t1 : TypeId} (x0 : Blk u g0 c0 t0) (x1 : Blk u g1 c1 t1) (h : (∀ i, w'.cell? ⟨g0, i, none⟩ = c0[i]?) ∧ (∀ i, w'.cell? ⟨g1, i, none⟩ = c1[i]?) ∧ Below u.heap.size u w') (p : Addr) (v : Value) (hp : u.heap.size ≤ p.block) : (∀ i, (w'.setCell p v).cell? ⟨g0, i, none⟩ = c0[i]?) ∧ (∀ i, (w'.setCell p v).cell? ⟨g1, i, none⟩ = c1[i]?) ∧ Below u.heap.size u (w'.setCell p v) := by
  have B := h.2.2.setCell hp v
  exact ⟨(x0.below B x0.lt).open.1, (x1.below B x1.lt).open.1, B⟩

theorem keep2c1_start {u : World} {g0 g1 : Nat} {c0 c1 : Array Value} {t0 t1 : TypeId} {p0 : Addr} {v0 : Value} (x0 : Blk u g0 c0 t0) (x1 : Blk u g1 c1 t1) (y0 : u.cell? p0 = some v0) : (∀ i, u.drew.cell? ⟨g0, i, none⟩ = c0[i]?) ∧ (∀ i, u.drew.cell? ⟨g1, i, none⟩ = c1[i]?) ∧ u.drew.cell? p0 = some v0 ∧ Below u.heap.size u u.drew :=
  ⟨x0.open.1, x1.open.1, y0, (Below.refl _ _).drew⟩

theorem keep2c1_later {u w' w'' : World} {g0 g1 : Nat} {c0 c1 : Array Value} {t0 t1 : TypeId} {p0 : Addr} {v0 : Value} (x0 : Blk u g0 c0 t0) (x1 : Blk u g1 c1 t1) (y0 : u.cell? p0 = some v0) (h : (∀ i, w'.cell? ⟨g0, i, none⟩ = c0[i]?) ∧ (∀ i, w'.cell? ⟨g1, i, none⟩ = c1[i]?) ∧ w'.cell? p0 = some v0 ∧ Below u.heap.size u w') (b : Below w'.heap.size w' w'') : (∀ i, w''.cell? ⟨g0, i, none⟩ = c0[i]?) ∧ (∀ i, w''.cell? ⟨g1, i, none⟩ = c1[i]?) ∧ w''.cell? p0 = some v0 ∧ Below u.heap.size u w'' := by
  have B := h.2.2.2.trans (b.mono h.2.2.2.size)
  exact ⟨(x0.below B x0.lt).open.1, (x1.below B x1.lt).open.1, (cell_on y0 B), B⟩

theorem keep2c1_set {u w' : World} {g0 g1 : Nat} {c0 c1 : Array Value} {t0 t1 : TypeId} {p0 : Addr} {v0 : Value} (x0 : Blk u g0 c0 t0) (x1 : Blk u g1 c1 t1) (y0 : u.cell? p0 = some v0) (h : (∀ i, w'.cell? ⟨g0, i, none⟩ = c0[i]?) ∧ (∀ i, w'.cell? ⟨g1, i, none⟩ = c1[i]?) ∧ w'.cell? p0 = some v0 ∧ Below u.heap.size u w') (p : Addr) (v : Value) (hp : u.heap.size ≤ p.block) : (∀ i, (w'.setCell p v).cell? ⟨g0, i, none⟩ = c0[i]?) ∧ (∀ i, (w'.setCell p v).cell? ⟨g1, i, none⟩ = c1[i]?) ∧ (w'.setCell p v).cell? p0 = some v0 ∧ Below u.heap.size u (w'.setCell p v) := by
  have B := h.2.2.2.setCell hp v
  exact ⟨(x0.below B x0.lt).open.1, (x1.below B x1.lt).open.1, (cell_on y0 B), B⟩

theorem keep2c2_start {u : World} {g0 g1 : Nat} {c0 c1 : Array Value} {t0 t1 : TypeId} {p0 p1 : Addr} {v0 v1 : Value} (x0 : Blk u g0 c0 t0) (x1 : Blk u g1 c1 t1) (y0 : u.cell? p0 = some v0) (y1 : u.cell? p1 = some v1) : (∀ i, u.drew.cell? ⟨g0, i, none⟩ = c0[i]?) ∧ (∀ i, u.drew.cell? ⟨g1, i, none⟩ = c1[i]?) ∧ u.drew.cell? p0 = some v0 ∧ u.drew.cell? p1 = some v1 ∧ Below u.heap.size u u.drew :=
  ⟨x0.open.1, x1.open.1, y0, y1, (Below.refl _ _).drew⟩

theorem keep2c2_later {u w' w'' : World} {g0 g1 : Nat} {c0 c1 : Array Value} {t0 t1 : TypeId} {p0 p1 : Addr} {v0 v1 : Value} (x0 : Blk u g0 c0 t0) (x1 : Blk u g1 c1 t1) (y0 : u.cell? p0 = some v0) (y1 : u.cell? p1 = some v1) (h : (∀ i, w'.cell? ⟨g0, i, none⟩ = c0[i]?) ∧ (∀ i, w'.cell? ⟨g1, i, none⟩ = c1[i]?) ∧ w'.cell? p0 = some v0 ∧ w'.cell? p1 = some v1 ∧ Below u.heap.size u w') (b : Below w'.heap.size w' w'') : (∀ i, w''.cell? ⟨g0, i, none⟩ = c0[i]?) ∧ (∀ i, w''.cell? ⟨g1, i, none⟩ = c1[i]?) ∧ w''.cell? p0 = some v0 ∧ w''.cell? p1 = some v1 ∧ Below u.heap.size u w'' := by
  have B := h.2.2.2.2.trans (b.mono h.2.2.2.2.size)
  exact ⟨(x0.below B x0.lt).open.1, (x1.below B x1.lt).open.1, (cell_on y0 B), (cell_on y1 B), B⟩

theorem keep2c2_set {u w' : World} {g0 g1 : Nat} {c0 c1 : Array Value} {t0 t1 : TypeId} {p0 p1 : Addr} {v0 v1 : Value} (x0 : Blk u g0 c0 t0) (x1 : Blk u g1 c1 t1) (y0 : u.cell? p0 = some v0) (y1 : u.cell? p1 = some v1) (h : (∀ i, w'.cell? ⟨g0, i, none⟩ = c0[i]?) ∧ (∀ i, w'.cell? ⟨g1, i, none⟩ = c1[i]?) ∧ w'.cell? p0 = some v0 ∧ w'.cell? p1 = some v1 ∧ Below u.heap.size u w') (p : Addr) (v : Value) (hp : u.heap.size ≤ p.block) : (∀ i, (w'.setCell p v).cell? ⟨g0, i, none⟩ = c0[i]?) ∧ (∀ i, (w'.setCell p v).cell? ⟨g1, i, none⟩ = c1[i]?) ∧ (w'.setCell p v).cell? p0 = some v0 ∧ (w'.setCell p v).cell? p1 = some v1 ∧ Below u.heap.size u (w'.setCell p v) := by
  have B := h.2.2.2.2.setCell hp v
  exact ⟨(x0.below B x0.lt).open.1, (x1.below B x1.lt).open.1, (cell_on y0 B), (cell_on y1 B), B⟩

theorem keep2c3_start {u : World} {g0 g1 : Nat} {c0 c1 : Array Value} {t0 t1 : TypeId} {p0 p1 p2 : Addr} {v0 v1 v2 : Value} (x0 : Blk u g0 c0 t0) (x1 : Blk u g1 c1 t1) (y0 : u.cell? p0 = some v0) (y1 : u.cell? p1 = some v1) (y2 : u.cell? p2 = some v2) : (∀ i, u.drew.cell? ⟨g0, i, none⟩ = c0[i]?) ∧ (∀ i, u.drew.cell? ⟨g1, i, none⟩ = c1[i]?) ∧ u.drew.cell? p0 = some v0 ∧ u.drew.cell? p1 = some v1 ∧ u.drew.cell? p2 = some v2 ∧ Below u.heap.size u u.drew :=
  ⟨x0.open.1, x1.open.1, y0, y1, y2, (Below.refl _ _).drew⟩

theorem keep2c3_later {u w' w'' : World} {g0 g1 : Nat} {c0 c1 : Array Value} {t0 t1 : TypeId} {p0 p1 p2 : Addr} {v0 v1 v2 : Value} (x0 : Blk u g0 c0 t0) (x1 : Blk u g1 c1 t1) (y0 : u.cell? p0 = some v0) (y1 : u.cell? p1 = some v1) (y2 : u.cell? p2 = some v2) (h : (∀ i, w'.cell? ⟨g0, i, none⟩ = c0[i]?) ∧ (∀ i, w'.cell? ⟨g1, i, none⟩ = c1[i]?) ∧ w'.cell? p0 = some v0 ∧ w'.cell? p1 = some v1 ∧ w'.cell? p2 = some v2 ∧ Below u.heap.size u w') (b : Below w'.heap.size w' w'') : (∀ i, w''.cell? ⟨g0, i, none⟩ = c0[i]?) ∧ (∀ i, w''.cell? ⟨g1, i, none⟩ = c1[i]?) ∧ w''.cell? p0 = some v0 ∧ w''.cell? p1 = some v1 ∧ w''.cell? p2 = some v2 ∧ Below u.heap.size u w'' := by
  have B := h.2.2.2.2.2.trans (b.mono h.2.2.2.2.2.size)
  exact ⟨(x0.below B x0.lt).open.1, (x1.below B x1.lt).open.1, (cell_on y0 B), (cell_on y1 B), (cell_on y2 B), B⟩

theorem keep2c3_set {u w' : World} {g0 g1 : Nat} {c0 c1 : Array Value} {t0 t1 : TypeId} {p0 p1 p2 : Addr} {v0 v1 v2 : Value} (x0 : Blk u g0 c0 t0) (x1 : Blk u g1 c1 t1) (y0 : u.cell? p0 = some v0) (y1 : u.cell? p1 = some v1) (y2 : u.cell? p2 = some v2) (h : (∀ i, w'.cell? ⟨g0, i, none⟩ = c0[i]?) ∧ (∀ i, w'.cell? ⟨g1, i, none⟩ = c1[i]?) ∧ w'.cell? p0 = some v0 ∧ w'.cell? p1 = some v1 ∧ w'.cell? p2 = some v2 ∧ Below u.heap.size u w') (p : Addr) (v : Value) (hp : u.heap.size ≤ p.block) : (∀ i, (w'.setCell p v).cell? ⟨g0, i, none⟩ = c0[i]?) ∧ (∀ i, (w'.setCell p v).cell? ⟨g1, i, none⟩ = c1[i]?) ∧ (w'.setCell p v).cell? p0 = some v0 ∧ (w'.setCell p v).cell? p1 = some v1 ∧ (w'.setCell p v).cell? p2 = some v2 ∧ Below u.heap.size u (w'.setCell p v) := by
  have B := h.2.2.2.2.2.setCell hp v
  exact ⟨(x0.below B x0.lt).open.1, (x1.below B x1.lt).open.1, (cell_on y0 B), (cell_on y1 B), (cell_on y2 B), B⟩

theorem keep3_start {u : World} {g0 g1 g2 : Nat} {c0 c1 c2 : Array Value} {t0 t1 t2 : TypeId} (x0 : Blk u g0 c0 t0) (x1 : Blk u g1 c1 t1) (x2 : Blk u g2 c2 t2) : (∀ i, u.drew.cell? ⟨g0, i, none⟩ = c0[i]?) ∧ (∀ i, u.drew.cell? ⟨g1, i, none⟩ = c1[i]?) ∧ (∀ i, u.drew.cell? ⟨g2, i, none⟩ = c2[i]?) ∧ Below u.heap.size u u.drew :=
  ⟨x0.open.1, x1.open.1, x2.open.1, (Below.refl _ _).drew⟩

theorem keep3_later {u w' w'' : World} {g0 g1 g2 : Nat} {c0 c1 c2 : Array Value} {t0 t1 t2 : TypeId} (x0 : Blk u g0 c0 t0) (x1 : Blk u g1 c1 t1) (x2 : Blk u g2 c2 t2) (h : (∀ i, w'.cell? ⟨g0, i, none⟩ = c0[i]?) ∧ (∀ i, w'.cell? ⟨g1, i, none⟩ = c1[i]?) ∧ (∀ i, w'.cell? ⟨g2, i, none⟩ = c2[i]?) ∧ Below u.heap.size u w') (b : Below w'.heap.size w' w'') : (∀ i, w''.cell? ⟨g0, i, none⟩ = c0[i]?) ∧ (∀ i, w''.cell? ⟨g1, i, none⟩ = c1[i]?) ∧ (∀ i, w''.cell? ⟨g2, i, none⟩ = c2[i]?) ∧ Below u.heap.size u w'' := by
  have B := h.2.2.2.trans (b.mono h.2.2.2.size)
  exact ⟨(x0.below B x0.lt).open.1, (x1.below B x1.lt).open.1, (x2.below B x2.lt).open.1, B⟩

theorem keep3_set {u w' : World} {g0 g1 g2 : Nat} {c0 c1 c2 : Array Value} {t0 t1 t2 : TypeId} (x0 : Blk u g0 c0 t0) (x1 : Blk u g1 c1 t1) (x2 : Blk u g2 c2 t2) (h : (∀ i, w'.cell? ⟨g0, i, none⟩ = c0[i]?) ∧ (∀ i, w'.cell? ⟨g1, i, none⟩ = c1[i]?) ∧ (∀ i, w'.cell? ⟨g2, i, none⟩ = c2[i]?) ∧ Below u.heap.size u w') (p : Addr) (v : Value) (hp : u.heap.size ≤ p.block) : (∀ i, (w'.setCell p v).cell? ⟨g0, i, none⟩ = c0[i]?) ∧ (∀ i, (w'.setCell p v).cell? ⟨g1, i, none⟩ = c1[i]?) ∧ (∀ i, (w'.setCell p v).cell? ⟨g2, i, none⟩ = c2[i]?) ∧ Below u.heap.size u (w'.setCell p v) := by
  have B := h.2.2.2.setCell hp v
  exact ⟨(x0.below B x0.lt).open.1, (x1.below B x1.lt).open.1, (x2.below B x2.lt).open.1, B⟩

theorem keep3c1_start {u : World} {g0 g1 g2 : Nat} {c0 c1 c2 : Array Value} {t0 t1 t2 : TypeId} {p0 : Addr} {v0 : Value} (x0 : Blk u g0 c0 t0) (x1 : Blk u g1 c1 t1) (x2 : Blk u g2 c2 t2) (y0 : u.cell? p0 = some v0) : (∀ i, u.drew.cell? ⟨g0, i, none⟩ = c0[i]?) ∧ (∀ i, u.drew.cell? ⟨g1, i, none⟩ = c1[i]?) ∧ (∀ i, u.drew.cell? ⟨g2, i, none⟩ = c2[i]?) ∧ u.drew.cell? p0 = some v0 ∧ Below u.heap.size u u.drew :=
  ⟨x0.open.1, x1.open.1, x2.open.1, y0, (Below.refl _ _).drew⟩

theorem keep3c1_later {u w' w'' : World} {g0 g1 g2 : Nat} {c0 c1 c2 : Array Value} {t0 t1 t2 : TypeId} {p0 : Addr} {v0 : Value} (x0 : Blk u g0 c0 t0) (x1 : Blk u g1 c1 t1) (x2 : Blk u g2 c2 t2) (y0 : u.cell? p0 = some v0) (h : (∀ i, w'.cell? ⟨g0, i, none⟩ = c0[i]?) ∧ (∀ i, w'.cell? ⟨g1, i, none⟩ = c1[i]?) ∧ (∀ i, w'.cell? ⟨g2, i, none⟩ = c2[i]?) ∧ w'.cell? p0 = some v0 ∧ Below u.heap.size u w') (b : Below w'.heap.size w' w'') : (∀ i, w''.cell? ⟨g0, i, none⟩ = c0[i]?) ∧ (∀ i, w''.cell? ⟨g1, i, none⟩ = c1[i]?) ∧ (∀ i, w''.cell? ⟨g2, i, none⟩ = c2[i]?) ∧ w''.cell? p0 = some v0 ∧ Below u.heap.size u w'' := by
  have B := h.2.2.2.2.trans (b.mono h.2.2.2.2.size)
  exact ⟨(x0.below B x0.lt).open.1, (x1.below B x1.lt).open.1, (x2.below B x2.lt).open.1, (cell_on y0 B), B⟩

theorem keep3c1_set {u w' : World} {g0 g1 g2 : Nat} {c0 c1 c2 : Array Value} {t0 t1 t2 : TypeId} {p0 : Addr} {v0 : Value} (x0 : Blk u g0 c0 t0) (x1 : Blk u g1 c1 t1) (x2 : Blk u g2 c2 t2) (y0 : u.cell? p0 = some v0) (h : (∀ i, w'.cell? ⟨g0, i, none⟩ = c0[i]?) ∧ (∀ i, w'.cell? ⟨g1, i, none⟩ = c1[i]?) ∧ (∀ i, w'.cell? ⟨g2, i, none⟩ = c2[i]?) ∧ w'.cell? p0 = some v0 ∧ Below u.heap.size u w') (p : Addr) (v : Value) (hp : u.heap.size ≤ p.block) : (∀ i, (w'.setCell p v).cell? ⟨g0, i, none⟩ = c0[i]?) ∧ (∀ i, (w'.setCell p v).cell? ⟨g1, i, none⟩ = c1[i]?) ∧ (∀ i, (w'.setCell p v).cell? ⟨g2, i, none⟩ = c2[i]?) ∧ (w'.setCell p v).cell? p0 = some v0 ∧ Below u.heap.size u (w'.setCell p v) := by
  have B := h.2.2.2.2.setCell hp v
  exact ⟨(x0.below B x0.lt).open.1, (x1.below B x1.lt).open.1, (x2.below B x2.lt).open.1, (cell_on y0 B), B⟩

theorem keep3c2_start {u : World} {g0 g1 g2 : Nat} {c0 c1 c2 : Array Value} {t0 t1 t2 : TypeId} {p0 p1 : Addr} {v0 v1 : Value} (x0 : Blk u g0 c0 t0) (x1 : Blk u g1 c1 t1) (x2 : Blk u g2 c2 t2) (y0 : u.cell? p0 = some v0) (y1 : u.cell? p1 = some v1) : (∀ i, u.drew.cell? ⟨g0, i, none⟩ = c0[i]?) ∧ (∀ i, u.drew.cell? ⟨g1, i, none⟩ = c1[i]?) ∧ (∀ i, u.drew.cell? ⟨g2, i, none⟩ = c2[i]?) ∧ u.drew.cell? p0 = some v0 ∧ u.drew.cell? p1 = some v1 ∧ Below u.heap.size u u.drew :=
  ⟨x0.open.1, x1.open.1, x2.open.1, y0, y1, (Below.refl _ _).drew⟩

theorem keep3c2_later {u w' w'' : World} {g0 g1 g2 : Nat} {c0 c1 c2 : Array Value} {t0 t1 t2 : TypeId} {p0 p1 : Addr} {v0 v1 : Value} (x0 : Blk u g0 c0 t0) (x1 : Blk u g1 c1 t1) (x2 : Blk u g2 c2 t2) (y0 : u.cell? p0 = some v0) (y1 : u.cell? p1 = some v1) (h : (∀ i, w'.cell? ⟨g0, i, none⟩ = c0[i]?) ∧ (∀ i, w'.cell? ⟨g1, i, none⟩ = c1[i]?) ∧ (∀ i, w'.cell? ⟨g2, i, none⟩ = c2[i]?) ∧ w'.cell? p0 = some v0 ∧ w'.cell? p1 = some v1 ∧ Below u.heap.size u w') (b : Below w'.heap.size w' w'') : (∀ i, w''.cell? ⟨g0, i, none⟩ = c0[i]?) ∧ (∀ i, w''.cell? ⟨g1, i, none⟩ = c1[i]?) ∧ (∀ i, w''.cell? ⟨g2, i, none⟩ = c2[i]?) ∧ w''.cell? p0 = some v0 ∧ w''.cell? p1 = some v1 ∧ Below u.heap.size u w'' := by
  have B := h.2.2.2.2.2.trans (b.mono h.2.2.2.2.2.size)
  exact ⟨(x0.below B x0.lt).open.1, (x1.below B x1.lt).open.1, (x2.below B x2.lt).open.1, (cell_on y0 B), (cell_on y1 B), B⟩

theorem keep3c2_set {u w' : World} {g0 g1 g2 : Nat} {c0 c1 c2 : Array Value} {t0 t1 t2 : TypeId} {p0 p1 : Addr} {v0 v1 : Value} (x0 : Blk u g0 c0 t0) (x1 : Blk u g1 c1 t1) (x2 : Blk u g2 c2 t2) (y0 : u.cell? p0 = some v0) (y1 : u.cell? p1 = some v1) (h : (∀ i, w'.cell? ⟨g0, i, none⟩ = c0[i]?) ∧ (∀ i, w'.cell? ⟨g1, i, none⟩ = c1[i]?) ∧ (∀ i, w'.cell? ⟨g2, i, none⟩ = c2[i]?) ∧ w'.cell? p0 = some v0 ∧ w'.cell? p1 = some v1 ∧ Below u.heap.size u w') (p : Addr) (v : Value) (hp : u.heap.size ≤ p.block) : (∀ i, (w'.setCell p v).cell? ⟨g0, i, none⟩ = c0[i]?) ∧ (∀ i, (w'.setCell p v).cell? ⟨g1, i, none⟩ = c1[i]?) ∧ (∀ i, (w'.setCell p v).cell? ⟨g2, i, none⟩ = c2[i]?) ∧ (w'.setCell p v).cell? p0 = some v0 ∧ (w'.setCell p v).cell? p1 = some v1 ∧ Below u.heap.size u (w'.setCell p v) := by
  have B := h.2.2.2.2.2.setCell hp v
  exact ⟨(x0.below B x0.lt).open.1, (x1.below B x1.lt).open.1, (x2.below B x2.lt).open.1, (cell_on y0 B), (cell_on y1 B), B⟩

theorem keep3c3_start {u : World} {g0 g1 g2 : Nat} {c0 c1 c2 : Array Value} {t0 t1 t2 : TypeId} {p0 p1 p2 : Addr} {v0 v1 v2 : Value} (x0 : Blk u g0 c0 t0) (x1 : Blk u g1 c1 t1) (x2 : Blk u g2 c2 t2) (y0 : u.cell? p0 = some v0) (y1 : u.cell? p1 = some v1) (y2 : u.cell? p2 = some v2) : (∀ i, u.drew.cell? ⟨g0, i, none⟩ = c0[i]?) ∧ (∀ i, u.drew.cell? ⟨g1, i, none⟩ = c1[i]?) ∧ (∀ i, u.drew.cell? ⟨g2, i, none⟩ = c2[i]?) ∧ u.drew.cell? p0 = some v0 ∧ u.drew.cell? p1 = some v1 ∧ u.drew.cell? p2 = some v2 ∧ Below u.heap.size u u.drew :=
  ⟨x0.open.1, x1.open.1, x2.open.1, y0, y1, y2, (Below.refl _ _).drew⟩

theorem keep3c3_later {u w' w'' : World} {g0 g1 g2 : Nat} {c0 c1 c2 : Array Value} {t0 t1 t2 : TypeId} {p0 p1 p2 : Addr} {v0 v1 v2 : Value} (x0 : Blk u g0 c0 t0) (x1 : Blk u g1 c1 t1) (x2 : Blk u g2 c2 t2) (y0 : u.cell? p0 = some v0) (y1 : u.cell? p1 = some v1) (y2 : u.cell? p2 = some v2) (h : (∀ i, w'.cell? ⟨g0, i, none⟩ = c0[i]?) ∧ (∀ i, w'.cell? ⟨g1, i, none⟩ = c1[i]?) ∧ (∀ i, w'.cell? ⟨g2, i, none⟩ = c2[i]?) ∧ w'.cell? p0 = some v0 ∧ w'.cell? p1 = some v1 ∧ w'.cell? p2 = some v2 ∧ Below u.heap.size u w') (b : Below w'.heap.size w' w'') : (∀ i, w''.cell? ⟨g0, i, none⟩ = c0[i]?) ∧ (∀ i, w''.cell? ⟨g1, i, none⟩ = c1[i]?) ∧ (∀ i, w''.cell? ⟨g2, i, none⟩ = c2[i]?) ∧ w''.cell? p0 = some v0 ∧ w''.cell? p1 = some v1 ∧ w''.cell? p2 = some v2 ∧ Below u.heap.size u w'' := by
  have B := h.2.2.2.2.2.2.trans (b.mono h.2.2.2.2.2.2.size)
  exact ⟨(x0.below B x0.lt).open.1, (x1.below B x1.lt).open.1, (x2.below B x2.lt).open.1, (cell_on y0 B), (cell_on y1 B), (cell_on y2 B), B⟩

theorem keep3c3_set {u w' : World} {g0 g1 g2 : Nat} {c0 c1 c2 : Array Value} {t0 t1 t2 : TypeId} {p0 p1 p2 : Addr} {v0 v1 v2 : Value} (x0 : Blk u g0 c0 t0) (x1 : Blk u g1 c1 t1) (x2 : Blk u g2 c2 t2) (y0 : u.cell? p0 = some v0) (y1 : u.cell? p1 = some v1) (y2 : u.cell? p2 = some v2) (h : (∀ i, w'.cell? ⟨g0, i, none⟩ = c0[i]?) ∧ (∀ i, w'.cell? ⟨g1, i, none⟩ = c1[i]?) ∧ (∀ i, w'.cell? ⟨g2, i, none⟩ = c2[i]?) ∧ w'.cell? p0 = some v0 ∧ w'.cell? p1 = some v1 ∧ w'.cell? p2 = some v2 ∧ Below u.heap.size u w') (p : Addr) (v : Value) (hp : u.heap.size ≤ p.block) : (∀ i, (w'.setCell p v).cell? ⟨g0, i, none⟩ = c0[i]?) ∧ (∀ i, (w'.setCell p v).cell? ⟨g1, i, none⟩ = c1[i]?) ∧ (∀ i, (w'.setCell p v).cell? ⟨g2, i, none⟩ = c2[i]?) ∧ (w'.setCell p v).cell? p0 = some v0 ∧ (w'.setCell p v).cell? p1 = some v1 ∧ (w'.setCell p v).cell? p2 = some v2 ∧ Below u.heap.size u (w'.setCell p v) := by
  have B := h.2.2.2.2.2.2.setCell hp v
  exact ⟨(x0.below B x0.lt).open.1, (x1.below B x1.lt).open.1, (x2.below B x2.lt).open.1, (cell_on y0 B), (cell_on y1 B), (cell_on y2 B), B⟩

theorem keep4_start {u : World} {g0 g1 g2 g3 : Nat} {c0 c1 c2 c3 : Array Value} {t0 t1 t2 t3 : TypeId} (x0 : Blk u g0 c0 t0) (x1 : Blk u g1 c1 t1) (x2 : Blk u g2 c2 t2) (x3 : Blk u g3 c3 t3) : (∀ i, u.drew.cell? ⟨g0, i, none⟩ = c0[i]?) ∧ (∀ i, u.drew.cell? ⟨g1, i, none⟩ = c1[i]?) ∧ (∀ i, u.drew.cell? ⟨g2, i, none⟩ = c2[i]?) ∧ (∀ i, u.drew.cell? ⟨g3, i, none⟩ = c3[i]?) ∧ Below u.heap.size u u.drew :=
  ⟨x0.open.1, x1.open.1, x2.open.1, x3.open.1, (Below.refl _ _).drew⟩

theorem keep4_later {u w' w'' : World} {g0 g1 g2 g3 : Nat} {c0 c1 c2 c3 : Array Value} {t0 t1 t2 t3 : TypeId} (x0 : Blk u g0 c0 t0) (x1 : Blk u g1 c1 t1) (x2 : Blk u g2 c2 t2) (x3 : Blk u g3 c3 t3) (h : (∀ i, w'.cell? ⟨g0, i, none⟩ = c0[i]?) ∧ (∀ i, w'.cell? ⟨g1, i, none⟩ = c1[i]?) ∧ (∀ i, w'.cell? ⟨g2, i, none⟩ = c2[i]?) ∧ (∀ i, w'.cell? ⟨g3, i, none⟩ = c3[i]?) ∧ Below u.heap.size u w') (b : Below w'.heap.size w' w'') : (∀ i, w''.cell? ⟨g0, i, none⟩ = c0[i]?) ∧ (∀ i, w''.cell? ⟨g1, i, none⟩ = c1[i]?) ∧ (∀ i, w''.cell? ⟨g2, i, none⟩ = c2[i]?) ∧ (∀ i, w''.cell? ⟨g3, i, none⟩ = c3[i]?) ∧ Below u.heap.size u w'' := by
  have B := h.2.2.2.2.trans (b.mono h.2.2.2.2.size)
  exact ⟨(x0.below B x0.lt).open.1, (x1.below B x1.lt).open.1, (x2.below B x2.lt).open.1, (x3.below B x3.lt).open.1, B⟩

theorem keep4_set {u w' : World} {g0 g1 g2 g3 : Nat} {c0 c1 c2 c3 : Array Value} {t0 t1 t2 t3 : TypeId} (x0 : Blk u g0 c0 t0) (x1 : Blk u g1 c1 t1) (x2 : Blk u g2 c2 t2) (x3 : Blk u g3 c3 t3) (h : (∀ i, w'.cell? ⟨g0, i, none⟩ = c0[i]?) ∧ (∀ i, w'.cell? ⟨g1, i, none⟩ = c1[i]?) ∧ (∀ i, w'.cell? ⟨g2, i, none⟩ = c2[i]?) ∧ (∀ i, w'.cell? ⟨g3, i, none⟩ = c3[i]?) ∧ Below u.heap.size u w') (p : Addr) (v : Value) (hp : u.heap.size ≤ p.block) : (∀ i, (w'.setCell p v).cell? ⟨g0, i, none⟩ = c0[i]?) ∧ (∀ i, (w'.setCell p v).cell? ⟨g1, i, none⟩ = c1[i]?) ∧ (∀ i, (w'.setCell p v).cell? ⟨g2, i, none⟩ = c2[i]?) ∧ (∀ i, (w'.setCell p v).cell? ⟨g3, i, none⟩ = c3[i]?) ∧ Below u.heap.size u (w'.setCell p v) := by
  have B := h.2.2.2.2.setCell hp v
  exact ⟨(x0.below B x0.lt).open.1, (x1.below B x1.lt).open.1, (x2.below B x2.lt).open.1, (x3.below B x3.lt).open.1, B⟩

theorem keep4c1_start {u : World} {g0 g1 g2 g3 : Nat} {c0 c1 c2 c3 : Array Value} {t0 t1 t2 t3 : TypeId} {p0 : Addr} {v0 : Value} (x0 : Blk u g0 c0 t0) (x1 : Blk u g1 c1 t1) (x2 : Blk u g2 c2 t2) (x3 : Blk u g3 c3 t3) (y0 : u.cell? p0 = some v0) : (∀ i, u.drew.cell? ⟨g0, i, none⟩ = c0[i]?) ∧ (∀ i, u.drew.cell? ⟨g1, i, none⟩ = c1[i]?) ∧ (∀ i, u.drew.cell? ⟨g2, i, none⟩ = c2[i]?) ∧ (∀ i, u.drew.cell? ⟨g3, i, none⟩ = c3[i]?) ∧ u.drew.cell? p0 = some v0 ∧ Below u.heap.size u u.drew :=
  ⟨x0.open.1, x1.open.1, x2.open.1, x3.open.1, y0, (Below.refl _ _).drew⟩

theorem keep4c1_later {u w' w'' : World} {g0 g1 g2 g3 : Nat} {c0 c1 c2 c3 : Array Value} {t0 t1 t2 t3 : TypeId} {p0 : Addr} {v0 : Value} (x0 : Blk u g0 c0 t0) (x1 : Blk u g1 c1 t1) (x2 : Blk u g2 c2 t2) (x3 : Blk u g3 c3 t3) (y0 : u.cell? p0 = some v0) (h : (∀ i, w'.cell? ⟨g0, i, none⟩ = c0[i]?) ∧ (∀ i, w'.cell? ⟨g1, i, none⟩ = c1[i]?) ∧ (∀ i, w'.cell? ⟨g2, i, none⟩ = c2[i]?) ∧ (∀ i, w'.cell? ⟨g3, i, none⟩ = c3[i]?) ∧ w'.cell? p0 = some v0 ∧ Below u.heap.size u w') (b : Below w'.heap.size w' w'') : (∀ i, w''.cell? ⟨g0, i, none⟩ = c0[i]?) ∧ (∀ i, w''.cell? ⟨g1, i, none⟩ = c1[i]?) ∧ (∀ i, w''.cell? ⟨g2, i, none⟩ = c2[i]?) ∧ (∀ i, w''.cell? ⟨g3, i, none⟩ = c3[i]?) ∧ w''.cell? p0 = some v0 ∧ Below u.heap.size u w'' := by
  have B := h.2.2.2.2.2.trans (b.mono h.2.2.2.2.2.size)
  exact ⟨(x0.below B x0.lt).open.1, (x1.below B x1.lt).open.1, (x2.below B x2.lt).open.1, (x3.below B x3.lt).open.1, (cell_on y0 B), B⟩

theorem keep4c1_set {u w' : World} {g0 g1 g2 g3 : Nat} {c0 c1 c2 c3 : Array Value} {t0 t1 t2 t3 : TypeId} {p0 : Addr} {v0 : Value} (x0 : Blk u g0 c0 t0) (x1 : Blk u g1 c1 t1) (x2 : Blk u g2 c2 t2) (x3 : Blk u g3 c3 t3) (y0 : u.cell? p0 = some v0) (h : (∀ i, w'.cell? ⟨g0, i, none⟩ = c0[i]?) ∧ (∀ i, w'.cell? ⟨g1, i, none⟩ = c1[i]?) ∧ (∀ i, w'.cell? ⟨g2, i, none⟩ = c2[i]?) ∧ (∀ i, w'.cell? ⟨g3, i, none⟩ = c3[i]?) ∧ w'.cell? p0 = some v0 ∧ Below u.heap.size u w') (p : Addr) (v : Value) (hp : u.heap.size ≤ p.block) : (∀ i, (w'.setCell p v).cell? ⟨g0, i, none⟩ = c0[i]?) ∧ (∀ i, (w'.setCell p v).cell? ⟨g1, i, none⟩ = c1[i]?) ∧ (∀ i, (w'.setCell p v).cell? ⟨g2, i, none⟩ = c2[i]?) ∧ (∀ i, (w'.setCell p v).cell? ⟨g3, i, none⟩ = c3[i]?) ∧ (w'.setCell p v).cell? p0 = some v0 ∧ Below u.heap.size u (w'.setCell p v) := by
  have B := h.2.2.2.2.2.setCell hp v
  exact ⟨(x0.below B x0.lt).open.1, (x1.below B x1.lt).open.1, (x2.below B x2.lt).open.1, (x3.below B x3.lt).open.1, (cell_on y0 B), B⟩

theorem keep4c2_start {u : World} {g0 g1 g2 g3 : Nat} {c0 c1 c2 c3 : Array Value} {t0 t1 t2 t3 : TypeId} {p0 p1 : Addr} {v0 v1 : Value} (x0 : Blk u g0 c0 t0) (x1 : Blk u g1 c1 t1) (x2 : Blk u g2 c2 t2) (x3 : Blk u g3 c3 t3) (y0 : u.cell? p0 = some v0) (y1 : u.cell? p1 = some v1) : (∀ i, u.drew.cell? ⟨g0, i, none⟩ = c0[i]?) ∧ (∀ i, u.drew.cell? ⟨g1, i, none⟩ = c1[i]?) ∧ (∀ i, u.drew.cell? ⟨g2, i, none⟩ = c2[i]?) ∧ (∀ i, u.drew.cell? ⟨g3, i, none⟩ = c3[i]?) ∧ u.drew.cell? p0 = some v0 ∧ u.drew.cell? p1 = some v1 ∧ Below u.heap.size u u.drew :=
  ⟨x0.open.1, x1.open.1, x2.open.1, x3.open.1, y0, y1, (Below.refl _ _).drew⟩

theorem keep4c2_later {u w' w'' : World} {g0 g1 g2 g3 : Nat} {c0 c1 c2 c3 : Array Value} {t0 t1 t2 t3 : TypeId} {p0 p1 : Addr} {v0 v1 : Value} (x0 : Blk u g0 c0 t0) (x1 : Blk u g1 c1 t1) (x2 : Blk u g2 c2 t2) (x3 : Blk u g3 c3 t3) (y0 : u.cell? p0 = some v0) (y1 : u.cell? p1 = some v1) (h : (∀ i, w'.cell? ⟨g0, i, none⟩ = c0[i]?) ∧ (∀ i, w'.cell? ⟨g1, i, none⟩ = c1[i]?) ∧ (∀ i, w'.cell? ⟨g2, i, none⟩ = c2[i]?) ∧ (∀ i, w'.cell? ⟨g3, i, none⟩ = c3[i]?) ∧ w'.cell? p0 = some v0 ∧ w'.cell? p1 = some v1 ∧ Below u.heap.size u w') (b : Below w'.heap.size w' w'') : (∀ i, w''.cell? ⟨g0, i, none⟩ = c0[i]?) ∧ (∀ i, w''.cell? ⟨g1, i, none⟩ = c1[i]?) ∧ (∀ i, w''.cell? ⟨g2, i, none⟩ = c2[i]?) ∧ (∀ i, w''.cell? ⟨g3, i, none⟩ = c3[i]?) ∧ w''.cell? p0 = some v0 ∧ w''.cell? p1 = some v1 ∧ Below u.heap.size u w'' := by
  have B := h.2.2.2.2.2.2.trans (b.mono h.2.2.2.2.2.2.size)
  exact ⟨(x0.below B x0.lt).open.1, (x1.below B x1.lt).open.1, (x2.below B x2.lt).open.1, (x3.below B x3.lt).open.1, (cell_on y0 B), (cell_on y1 B), B⟩

theorem keep4c2_set {u w' : World} {g0 g1 g2 g3 : Nat} {c0 c1 c2 c3 : Array Value} {t0 t1 t2 t3 : TypeId} {p0 p1 : Addr} {v0 v1 : Value} (x0 : Blk u g0 c0 t0) (x1 : Blk u g1 c1 t1) (x2 : Blk u g2 c2 t2) (x3 : Blk u g3 c3 t3) (y0 : u.cell? p0 = some v0) (y1 : u.cell? p1 = some v1) (h : (∀ i, w'.cell? ⟨g0, i, none⟩ = c0[i]?) ∧ (∀ i, w'.cell? ⟨g1, i, none⟩ = c1[i]?) ∧ (∀ i, w'.cell? ⟨g2, i, none⟩ = c2[i]?) ∧ (∀ i, w'.cell? ⟨g3, i, none⟩ = c3[i]?) ∧ w'.cell? p0 = some v0 ∧ w'.cell? p1 = some v1 ∧ Below u.heap.size u w') (p : Addr) (v : Value) (hp : u.heap.size ≤ p.block) : (∀ i, (w'.setCell p v).cell? ⟨g0, i, none⟩ = c0[i]?) ∧ (∀ i, (w'.setCell p v).cell? ⟨g1, i, none⟩ = c1[i]?) ∧ (∀ i, (w'.setCell p v).cell? ⟨g2, i, none⟩ = c2[i]?) ∧ (∀ i, (w'.setCell p v).cell? ⟨g3, i, none⟩ = c3[i]?) ∧ (w'.setCell p v).cell? p0 = some v0 ∧ (w'.setCell p v).cell? p1 = some v1 ∧ Below u.heap.size u (w'.setCell p v) := by
  have B := h.2.2.2.2.2.2.setCell hp v
  exact ⟨(x0.below B x0.lt).open.1, (x1.below B x1.lt).open.1, (x2.below B x2.lt).open.1, (x3.below B x3.lt).open.1, (cell_on y0 B), (cell_on y1 B), B⟩

theorem keep4c3_start {u : World} {g0 g1 g2 g3 : Nat} {c0 c1 c2 c3 : Array Value} {t0 t1 t2 t3 : TypeId} {p0 p1 p2 : Addr} {v0 v1 v2 : Value} (x0 : Blk u g0 c0 t0) (x1 : Blk u g1 c1 t1) (x2 : Blk u g2 c2 t2) (x3 : Blk u g3 c3 t3) (y0 : u.cell? p0 = some v0) (y1 : u.cell? p1 = some v1) (y2 : u.cell? p2 = some v2) : (∀ i, u.drew.cell? ⟨g0, i, none⟩ = c0[i]?) ∧ (∀ i, u.drew.cell? ⟨g1, i, none⟩ = c1[i]?) ∧ (∀ i, u.drew.cell? ⟨g2, i, none⟩ = c2[i]?) ∧ (∀ i, u.drew.cell? ⟨g3, i, none⟩ = c3[i]?) ∧ u.drew.cell? p0 = some v0 ∧ u.drew.cell? p1 = some v1 ∧ u.drew.cell? p2 = some v2 ∧ Below u.heap.size u u.drew :=
  ⟨x0.open.1, x1.open.1, x2.open.1, x3.open.1, y0, y1, y2, (Below.refl _ _).drew⟩

theorem keep4c3_later {u w' w'' : World} {g0 g1 g2 g3 : Nat} {c0 c1 c2 c3 : Array Value} {t0 t1 t2 t3 : TypeId} {p0 p1 p2 : Addr} {v0 v1 v2 : Value} (x0 : Blk u g0 c0 t0) (x1 : Blk u g1 c1 t1) (x2 : Blk u g2 c2 t2) (x3 : Blk u g3 c3 t3) (y0 : u.cell? p0 = some v0) (y1 : u.cell? p1 = some v1) (y2 : u.cell? p2 = some v2) (h : (∀ i, w'.cell? ⟨g0, i, none⟩ = c0[i]?) ∧ (∀ i, w'.cell? ⟨g1, i, none⟩ = c1[i]?) ∧ (∀ i, w'.cell? ⟨g2, i, none⟩ = c2[i]?) ∧ (∀ i, w'.cell? ⟨g3, i, none⟩ = c3[i]?) ∧ w'.cell? p0 = some v0 ∧ w'.cell? p1 = some v1 ∧ w'.cell? p2 = some v2 ∧ Below u.heap.size u w') (b : Below w'.heap.size w' w'') : (∀ i, w''.cell? ⟨g0, i, none⟩ = c0[i]?) ∧ (∀ i, w''.cell? ⟨g1, i, none⟩ = c1[i]?) ∧ (∀ i, w''.cell? ⟨g2, i, none⟩ = c2[i]?) ∧ (∀ i, w''.cell? ⟨g3, i, none⟩ = c3[i]?) ∧ w''.cell? p0 = some v0 ∧ w''.cell? p1 = some v1 ∧ w''.cell? p2 = some v2 ∧ Below u.heap.size u w'' := by
  have B := h.2.2.2.2.2.2.2.trans (b.mono h.2.2.2.2.2.2.2.size)
  exact ⟨(x0.below B x0.lt).open.1, (x1.below B x1.lt).open.1, (x2.below B x2.lt).open.1, (x3.below B x3.lt).open.1, (cell_on y0 B), (cell_on y1 B), (cell_on y2 B), B⟩

theorem keep4c3_set {u w' : World} {g0 g1 g2 g3 : Nat} {c0 c1 c2 c3 : Array Value} {t0 t1 t2 t3 : TypeId} {p0 p1 p2 : Addr} {v0 v1 v2 : Value} (x0 : Blk u g0 c0 t0) (x1 : Blk u g1 c1 t1) (x2 : Blk u g2 c2 t2) (x3 : Blk u g3 c3 t3) (y0 : u.cell? p0 = some v0) (y1 : u.cell? p1 = some v1) (y2 : u.cell? p2 = some v2) (h : (∀ i, w'.cell? ⟨g0, i, none⟩ = c0[i]?) ∧ (∀ i, w'.cell? ⟨g1, i, none⟩ = c1[i]?) ∧ (∀ i, w'.cell? ⟨g2, i, none⟩ = c2[i]?) ∧ (∀ i, w'.cell? ⟨g3, i, none⟩ = c3[i]?) ∧ w'.cell? p0 = some v0 ∧ w'.cell? p1 = some v1 ∧ w'.cell? p2 = some v2 ∧ Below u.heap.size u w') (p : Addr) (v : Value) (hp : u.heap.size ≤ p.block) : (∀ i, (w'.setCell p v).cell? ⟨g0, i, none⟩ = c0[i]?) ∧ (∀ i, (w'.setCell p v).cell? ⟨g1, i, none⟩ = c1[i]?) ∧ (∀ i, (w'.setCell p v).cell? ⟨g2, i, none⟩ = c2[i]?) ∧ (∀ i, (w'.setCell p v).cell? ⟨g3, i, none⟩ = c3[i]?) ∧ (w'.setCell p v).cell? p0 = some v0 ∧ (w'.setCell p v).cell? p1 = some v1 ∧ (w'.setCell p v).cell? p2 = some v2 ∧ Below u.heap.size u (w'.setCell p v) := by
  have B := h.2.2.2.2.2.2.2.setCell hp v
  exact ⟨(x0.below B x0.lt).open.1, (x1.below B x1.lt).open.1, (x2.below B x2.lt).open.1, (x3.below B x3.lt).open.1, (cell_on y0 B), (cell_on y1 B), (cell_on y2 B), B⟩
end Go.Proofs.Ytedfbaeajofmnaa

end

section

namespace Go.Proofs.Ytedfbaeajofmnaa
open Go Ieee Go.RowKit
set_option linter.unusedVariables false

/-- a list up to the bits of its NaNs -/
def cl (xs : List Nat) : List (Option Nat) := xs.map (canon .f32)

theorem cl_length (xs : List Nat) : (cl xs).length = xs.length := List.length_map ..

/-- these are the numbers of a model's list -/
structure Is (ys : List Nat) (m : List (Option Nat)) : Prop where
  eq : cl ys = m
  lt : ∀ y ∈ ys, y < 2 ^ 32
  few : ys.length ≤ 256

theorem Is.nil : Is [] [] := ⟨rfl, (fun _ h => by cases h), (by decide)⟩

theorem Is.refl {ys : List Nat} (h : ∀ y ∈ ys, y < 2 ^ 32) (n : ys.length ≤ 256) : Is ys (cl ys) := ⟨rfl, h, n⟩

theorem Is.same {ys zs : List Nat} {m : List (Option Nat)} (h : Is ys m) (k : Is zs m) : SameF ys zs := by
  have e : cl ys = cl zs := h.eq.trans k.eq.symm
  refine ⟨by rw [← cl_length ys, e, cl_length], h.lt, k.lt, fun i hi hj => ?_⟩
  have := congrArg (·[i]?) e
  unfold cl at this
  simpa [hi, hj] using this

theorem nil_own (w : World) (B : Nat) : OwnV w B none (fvals []) := .inl ⟨rfl, rfl⟩
theorem nil_row (w : World) : RowV w none (fvals []) := fun i u h => by cases h

theorem grown_drew (u : World) (r : Option Nat) : u.grownBy u.drew r := ⟨rfl, rfl, rfl, Nat.le_refl _, fun _ _ _ => rfl⟩

theorem grown_next {u w' w'' : World} {r : Option Nat} (h : u.grownBy w' r) (b : Below w'.heap.size w' w'') : u.grownBy w'' r :=
  ⟨b.os.trans h.os, b.tape.trans h.tape, b.output.trans h.output, Nat.le_trans h.size b.size, fun k hk hr => (b.block k (Nat.lt_of_lt_of_le hk h.size)).trans (h.block k hk hr)⟩

structure GotField (B : Nat) (w w' : World) (m0 m1 m2 : List (Option Nat)) (a0 a1 a2 : Option Addr) (y0 y1 y2 : List Nat) : Prop where
  o0 : OwnV w' B a0 (fvals y0)
  o1 : OwnV w' B a1 (fvals y1)
  o2 : OwnV w' B a2 (fvals y2)
  p01 : Apart a0 a1
  p02 : Apart a0 a2
  p12 : Apart a1 a2
  s0 : Is y0 m0
  s1 : Is y1 m1
  s2 : Is y2 m2
  below : Below B w w'

structure HasField (w w' : World) (m0 m1 m2 : List (Option Nat)) (a0 a1 a2 : Option Addr) (y0 y1 y2 : List Nat) : Prop where
  o0 : RowV w' a0 (fvals y0)
  o1 : RowV w' a1 (fvals y1)
  o2 : RowV w' a2 (fvals y2)
  s0 : Is y0 m0
  s1 : Is y1 m1
  s2 : Is y2 m2
  below : Below w.heap.size w w'

theorem GotField.none {B : Nat} {w w' : World} (b : Below B w w') : GotField B w w' [] [] [] none none none [] [] [] := ⟨nil_own _ _, nil_own _ _, nil_own _ _, Apart.nil _, Apart.nil _, Apart.nil _, Is.nil, Is.nil, Is.nil, b⟩
theorem HasField.none {w w' : World} (b : Below w.heap.size w w') : HasField w w' [] [] [] none none none [] [] [] := ⟨nil_row _, nil_row _, nil_row _, Is.nil, Is.nil, Is.nil, b⟩

structure GotSheet (B : Nat) (w w' : World) (m0 m1 : List (Option Nat)) (a0 a1 : Option Addr) (y0 y1 : List Nat) : Prop where
  o0 : OwnV w' B a0 (fvals y0)
  o1 : OwnV w' B a1 (fvals y1)
  p01 : Apart a0 a1
  s0 : Is y0 m0
  s1 : Is y1 m1
  below : Below B w w'

structure HasSheet (w w' : World) (m0 m1 : List (Option Nat)) (a0 a1 : Option Addr) (y0 y1 : List Nat) : Prop where
  o0 : RowV w' a0 (fvals y0)
  o1 : RowV w' a1 (fvals y1)
  s0 : Is y0 m0
  s1 : Is y1 m1
  below : Below w.heap.size w w'

theorem GotSheet.none {B : Nat} {w w' : World} (b : Below B w w') : GotSheet B w w' [] [] none none [] [] := ⟨nil_own _ _, nil_own _ _, Apart.nil _, Is.nil, Is.nil, b⟩
theorem HasSheet.none {w w' : World} (b : Below w.heap.size w w') : HasSheet w w' [] [] none none [] [] := ⟨nil_row _, nil_row _, Is.nil, Is.nil, b⟩

theorem ne_of_span {lo hi b : Nat} {a : Option Addr} (h : Span lo hi a) (hb : b < lo ∨ hi ≤ b) : ∀ x, a = some x → x.block ≠ b := fun x hx => by
  have := h x hx
  omega

theorem grown_set1 {u w' : World} {R : Nat} (h : u.grownBy w' (some R)) (i : Nat) (v : Value) : u.grownBy (w'.setCell ⟨R, i, none⟩ v) (some R) := grown_set h i v

theorem keepR1_start {u : World} {R : Nat} {g0 : Nat} {c0 : Array Value} {t0 : TypeId} (x0 : Blk u g0 c0 t0) : (∀ i, u.drew.cell? ⟨g0, i, none⟩ = c0[i]?) ∧ u.grownBy u.drew (some R) := ⟨x0.open.1, grown_drew _ _⟩
theorem keepR1_later {u w' w'' : World} {R : Nat} {g0 : Nat} {c0 : Array Value} {t0 : TypeId} (x0 : Blk u g0 c0 t0) (e0 : g0 ≠ R) (h : (∀ i, w'.cell? ⟨g0, i, none⟩ = c0[i]?) ∧ u.grownBy w' (some R)) (b : Below w'.heap.size w' w'') : (∀ i, w''.cell? ⟨g0, i, none⟩ = c0[i]?) ∧ u.grownBy w'' (some R) := by
  have B := grown_next h.2 b
  exact ⟨(x0.grown B (fun h => e0 (Option.some.inj h))).open.1, B⟩
theorem keepR1_now {u w'' : World} {R : Nat} {g0 : Nat} {c0 : Array Value} {t0 : TypeId} (x0 : Blk u g0 c0 t0) (e0 : g0 ≠ R) (B : u.grownBy w'' (some R)) : (∀ i, w''.cell? ⟨g0, i, none⟩ = c0[i]?) ∧ u.grownBy w'' (some R) := ⟨(x0.grown B (fun h => e0 (Option.some.inj h))).open.1, B⟩

theorem keepR1_set1 {u w' : World} {R : Nat} {g0 : Nat} {c0 : Array Value} {t0 : TypeId} (x0 : Blk u g0 c0 t0) (e0 : g0 ≠ R) (h : (∀ i, w'.cell? ⟨g0, i, none⟩ = c0[i]?) ∧ u.grownBy w' (some R)) (v0 : Value) : (∀ i, (w'.setCell ⟨R, 0, none⟩ v0).cell? ⟨g0, i, none⟩ = c0[i]?) ∧ u.grownBy (w'.setCell ⟨R, 0, none⟩ v0) (some R) := keepR1_now x0 e0 (grown_set1 h.2 _ _)
theorem keepR1_set2 {u w' : World} {R : Nat} {g0 : Nat} {c0 : Array Value} {t0 : TypeId} (x0 : Blk u g0 c0 t0) (e0 : g0 ≠ R) (h : (∀ i, w'.cell? ⟨g0, i, none⟩ = c0[i]?) ∧ u.grownBy w' (some R)) (v0 v1 : Value) : (∀ i, ((w'.setCell ⟨R, 0, none⟩ v0).setCell ⟨R, 1, none⟩ v1).cell? ⟨g0, i, none⟩ = c0[i]?) ∧ u.grownBy ((w'.setCell ⟨R, 0, none⟩ v0).setCell ⟨R, 1, none⟩ v1) (some R) := keepR1_now x0 e0 (grown_set1 (grown_set1 h.2 _ _) _ _)
theorem keepR1_set3 {u w' : World} {R : Nat} {g0 : Nat} {c0 : Array Value} {t0 : TypeId} (x0 : Blk u g0 c0 t0) (e0 : g0 ≠ R) (h : (∀ i, w'.cell? ⟨g0, i, none⟩ = c0[i]?) ∧ u.grownBy w' (some R)) (v0 v1 v2 : Value) : (∀ i, (((w'.setCell ⟨R, 0, none⟩ v0).setCell ⟨R, 1, none⟩ v1).setCell ⟨R, 2, none⟩ v2).cell? ⟨g0, i, none⟩ = c0[i]?) ∧ u.grownBy (((w'.setCell ⟨R, 0, none⟩ v0).setCell ⟨R, 1, none⟩ v1).setCell ⟨R, 2, none⟩ v2) (some R) := keepR1_now x0 e0 (grown_set1 (grown_set1 (grown_set1 h.2 _ _) _ _) _ _)
theorem keepR1_set5 {u w' : World} {R : Nat} {g0 : Nat} {c0 : Array Value} {t0 : TypeId} (x0 : Blk u g0 c0 t0) (e0 : g0 ≠ R) (h : (∀ i, w'.cell? ⟨g0, i, none⟩ = c0[i]?) ∧ u.grownBy w' (some R)) (v0 v1 v2 v3 v4 : Value) : (∀ i, (((((w'.setCell ⟨R, 0, none⟩ v0).setCell ⟨R, 1, none⟩ v1).setCell ⟨R, 2, none⟩ v2).setCell ⟨R, 3, none⟩ v3).setCell ⟨R, 4, none⟩ v4).cell? ⟨g0, i, none⟩ = c0[i]?) ∧ u.grownBy (((((w'.setCell ⟨R, 0, none⟩ v0).setCell ⟨R, 1, none⟩ v1).setCell ⟨R, 2, none⟩ v2).setCell ⟨R, 3, none⟩ v3).setCell ⟨R, 4, none⟩ v4) (some R) := keepR1_now x0 e0 (grown_set1 (grown_set1 (grown_set1 (grown_set1 (grown_set1 h.2 _ _) _ _) _ _) _ _) _ _)
theorem keepR2_start {u : World} {R : Nat} {g0 g1 : Nat} {c0 c1 : Array Value} {t0 t1 : TypeId} (x0 : Blk u g0 c0 t0) (x1 : Blk u g1 c1 t1) : (∀ i, u.drew.cell? ⟨g0, i, none⟩ = c0[i]?) ∧ (∀ i, u.drew.cell? ⟨g1, i, none⟩ = c1[i]?) ∧ u.grownBy u.drew (some R) := ⟨x0.open.1, x1.open.1, grown_drew _ _⟩
theorem keepR2_later {u w' w'' : World} {R : Nat} {g0 g1 : Nat} {c0 c1 : Array Value} {t0 t1 : TypeId} (x0 : Blk u g0 c0 t0) (x1 : Blk u g1 c1 t1) (e0 : g0 ≠ R) (e1 : g1 ≠ R) (h : (∀ i, w'.cell? ⟨g0, i, none⟩ = c0[i]?) ∧ (∀ i, w'.cell? ⟨g1, i, none⟩ = c1[i]?) ∧ u.grownBy w' (some R)) (b : Below w'.heap.size w' w'') : (∀ i, w''.cell? ⟨g0, i, none⟩ = c0[i]?) ∧ (∀ i, w''.cell? ⟨g1, i, none⟩ = c1[i]?) ∧ u.grownBy w'' (some R) := by
  have B := grown_next h.2.2 b
  exact ⟨(x0.grown B (fun h => e0 (Option.some.inj h))).open.1, (x1.grown B (fun h => e1 (Option.some.inj h))).open.1, B⟩
theorem keepR2_now {u w'' : World} {R : Nat} {g0 g1 : Nat} {c0 c1 : Array Value} {t0 t1 : TypeId} (x0 : Blk u g0 c0 t0) (x1 : Blk u g1 c1 t1) (e0 : g0 ≠ R) (e1 : g1 ≠ R) (B : u.grownBy w'' (some R)) : (∀ i, w''.cell? ⟨g0, i, none⟩ = c0[i]?) ∧ (∀ i, w''.cell? ⟨g1, i, none⟩ = c1[i]?) ∧ u.grownBy w'' (some R) := ⟨(x0.grown B (fun h => e0 (Option.some.inj h))).open.1, (x1.grown B (fun h => e1 (Option.some.inj h))).open.1, B⟩

theorem keepR2_set1 {u w' : World} {R : Nat} {g0 g1 : Nat} {c0 c1 : Array Value} {t0 t1 : TypeId} (x0 : Blk u g0 c0 t0) (x1 : Blk u g1 c1 t1) (e0 : g0 ≠ R) (e1 : g1 ≠ R) (h : (∀ i, w'.cell? ⟨g0, i, none⟩ = c0[i]?) ∧ (∀ i, w'.cell? ⟨g1, i, none⟩ = c1[i]?) ∧ u.grownBy w' (some R)) (v0 : Value) : (∀ i, (w'.setCell ⟨R, 0, none⟩ v0).cell? ⟨g0, i, none⟩ = c0[i]?) ∧ (∀ i, (w'.setCell ⟨R, 0, none⟩ v0).cell? ⟨g1, i, none⟩ = c1[i]?) ∧ u.grownBy (w'.setCell ⟨R, 0, none⟩ v0) (some R) := keepR2_now x0 x1 e0 e1 (grown_set1 h.2.2 _ _)
theorem keepR2_set2 {u w' : World} {R : Nat} {g0 g1 : Nat} {c0 c1 : Array Value} {t0 t1 : TypeId} (x0 : Blk u g0 c0 t0) (x1 : Blk u g1 c1 t1) (e0 : g0 ≠ R) (e1 : g1 ≠ R) (h : (∀ i, w'.cell? ⟨g0, i, none⟩ = c0[i]?) ∧ (∀ i, w'.cell? ⟨g1, i, none⟩ = c1[i]?) ∧ u.grownBy w' (some R)) (v0 v1 : Value) : (∀ i, ((w'.setCell ⟨R, 0, none⟩ v0).setCell ⟨R, 1, none⟩ v1).cell? ⟨g0, i, none⟩ = c0[i]?) ∧ (∀ i, ((w'.setCell ⟨R, 0, none⟩ v0).setCell ⟨R, 1, none⟩ v1).cell? ⟨g1, i, none⟩ = c1[i]?) ∧ u.grownBy ((w'.setCell ⟨R, 0, none⟩ v0).setCell ⟨R, 1, none⟩ v1) (some R) := keepR2_now x0 x1 e0 e1 (grown_set1 (grown_set1 h.2.2 _ _) _ _)
theorem keepR2_set3 {u w' : World} {R : Nat} {g0 g1 : Nat} {c0 c1 : Array Value} {t0 t1 : TypeId} (x0 : Blk u g0 c0 t0) (x1 : Blk u g1 c1 t1) (e0 : g0 ≠ R) (e1 : g1 ≠ R) (h : (∀ i, w'.cell? ⟨g0, i, none⟩ = c0[i]?) ∧ (∀ i, w'.cell? ⟨g1, i, none⟩ = c1[i]?) ∧ u.grownBy w' (some R)) (v0 v1 v2 : Value) : (∀ i, (((w'.setCell ⟨R, 0, none⟩ v0).setCell ⟨R, 1, none⟩ v1).setCell ⟨R, 2, none⟩ v2).cell? ⟨g0, i, none⟩ = c0[i]?) ∧ (∀ i, (((w'.setCell ⟨R, 0, none⟩ v0).setCell ⟨R, 1, none⟩ v1).setCell ⟨R, 2, none⟩ v2).cell? ⟨g1, i, none⟩ = c1[i]?) ∧ u.grownBy (((w'.setCell ⟨R, 0, none⟩ v0).setCell ⟨R, 1, none⟩ v1).setCell ⟨R, 2, none⟩ v2) (some R) := keepR2_now x0 x1 e0 e1 (grown_set1 (grown_set1 (grown_set1 h.2.2 _ _) _ _) _ _)
theorem keepR2_set5 {u w' : World} {R : Nat} {g0 g1 : Nat} {c0 c1 : Array Value} {t0 t1 : TypeId} (x0 : Blk u g0 c0 t0) (x1 : Blk u g1 c1 t1) (e0 : g0 ≠ R) (e1 : g1 ≠ R) (h : (∀ i, w'.cell? ⟨g0, i, none⟩ = c0[i]?) ∧ (∀ i, w'.cell? ⟨g1, i, none⟩ = c1[i]?) ∧ u.grownBy w' (some R)) (v0 v1 v2 v3 v4 : Value) : (∀ i, (((((w'.setCell ⟨R, 0, none⟩ v0).setCell ⟨R, 1, none⟩ v1).setCell ⟨R, 2, none⟩ v2).setCell ⟨R, 3, none⟩ v3).setCell ⟨R, 4, none⟩ v4).cell? ⟨g0, i, none⟩ = c0[i]?) ∧ (∀ i, (((((w'.setCell ⟨R, 0, none⟩ v0).setCell ⟨R, 1, none⟩ v1).setCell ⟨R, 2, none⟩ v2).setCell ⟨R, 3, none⟩ v3).setCell ⟨R, 4, none⟩ v4).cell? ⟨g1, i, none⟩ = c1[i]?) ∧ u.grownBy (((((w'.setCell ⟨R, 0, none⟩ v0).setCell ⟨R, 1, none⟩ v1).setCell ⟨R, 2, none⟩ v2).setCell ⟨R, 3, none⟩ v3).setCell ⟨R, 4, none⟩ v4) (some R) := keepR2_now x0 x1 e0 e1 (grown_set1 (grown_set1 (grown_set1 (grown_set1 (grown_set1 h.2.2 _ _) _ _) _ _) _ _) _ _)
theorem keepR3_start {u : World} {R : Nat} {g0 g1 g2 : Nat} {c0 c1 c2 : Array Value} {t0 t1 t2 : TypeId} (x0 : Blk u g0 c0 t0) (x1 : Blk u g1 c1 t1) (x2 : Blk u g2 c2 t2) : (∀ i, u.drew.cell? ⟨g0, i, none⟩ = c0[i]?) ∧ (∀ i, u.drew.cell? ⟨g1, i, none⟩ = c1[i]?) ∧ (∀ i, u.drew.cell? ⟨g2, i, none⟩ = c2[i]?) ∧ u.grownBy u.drew (some R) := ⟨x0.open.1, x1.open.1, x2.open.1, grown_drew _ _⟩
theorem keepR3_later {u w' w'' : World} {R : Nat} {g0 g1 g2 : Nat} {c0 c1 c2 : Array Value} {t0 t1 t2 : TypeId} (x0 : Blk u g0 c0 t0) (x1 : Blk u g1 c1 t1) (x2 : Blk u g2 c2 t2) (e0 : g0 ≠ R) (e1 : g1 ≠ R) (e2 : g2 ≠ R) (h : (∀ i, w'.cell? ⟨g0, i, none⟩ = c0[i]?) ∧ (∀ i, w'.cell? ⟨g1, i, none⟩ = c1[i]?) ∧ (∀ i, w'.cell? ⟨g2, i, none⟩ = c2[i]?) ∧ u.grownBy w' (some R)) (b : Below w'.heap.size w' w'') : (∀ i, w''.cell? ⟨g0, i, none⟩ = c0[i]?) ∧ (∀ i, w''.cell? ⟨g1, i, none⟩ = c1[i]?) ∧ (∀ i, w''.cell? ⟨g2, i, none⟩ = c2[i]?) ∧ u.grownBy w'' (some R) := by
  have B := grown_next h.2.2.2 b
  exact ⟨(x0.grown B (fun h => e0 (Option.some.inj h))).open.1, (x1.grown B (fun h => e1 (Option.some.inj h))).open.1, (x2.grown B (fun h => e2 (Option.some.inj h))).open.1, B⟩
theorem keepR3_now {u w'' : World} {R : Nat} {g0 g1 g2 : Nat} {c0 c1 c2 : Array Value} {t0 t1 t2 : TypeId} (x0 : Blk u g0 c0 t0) (x1 : Blk u g1 c1 t1) (x2 : Blk u g2 c2 t2) (e0 : g0 ≠ R) (e1 : g1 ≠ R) (e2 : g2 ≠ R) (B : u.grownBy w'' (some R)) : (∀ i, w''.cell? ⟨g0, i, none⟩ = c0[i]?) ∧ (∀ i, w''.cell? ⟨g1, i, none⟩ = c1[i]?) ∧ (∀ i, w''.cell? ⟨g2, i, none⟩ = c2[i]?) ∧ u.grownBy w'' (some R) := ⟨(x0.grown B (fun h => e0 (Option.some.inj h))).open.1, (x1.grown B (fun h => e1 (Option.some.inj h))).open.1, (x2.grown B (fun h => e2 (Option.some.inj h))).open.1, B⟩

theorem keepR3_set1 {u w' : World} {R : Nat} {g0 g1 g2 : Nat} {c0 c1 c2 : Array Value} {t0 t1 t2 : TypeId} (x0 : Blk u g0 c0 t0) (x1 : Blk u g1 c1 t1) (x2 : Blk u g2 c2 t2) (e0 : g0 ≠ R) (e1 : g1 ≠ R) (e2 : g2 ≠ R) (h : (∀ i, w'.cell? ⟨g0, i, none⟩ = c0[i]?) ∧ (∀ i, w'.cell? ⟨g1, i, none⟩ = c1[i]?) ∧ (∀ i, w'.cell? ⟨g2, i, none⟩ = c2[i]?) ∧ u.grownBy w' (some R)) (v0 : Value) : (∀ i, (w'.setCell ⟨R, 0, none⟩ v0).cell? ⟨g0, i, none⟩ = c0[i]?) ∧ (∀ i, (w'.setCell ⟨R, 0, none⟩ v0).cell? ⟨g1, i, none⟩ = c1[i]?) ∧ (∀ i, (w'.setCell ⟨R, 0, none⟩ v0).cell? ⟨g2, i, none⟩ = c2[i]?) ∧ u.grownBy (w'.setCell ⟨R, 0, none⟩ v0) (some R) := keepR3_now x0 x1 x2 e0 e1 e2 (grown_set1 h.2.2.2 _ _)
theorem keepR3_set2 {u w' : World} {R : Nat} {g0 g1 g2 : Nat} {c0 c1 c2 : Array Value} {t0 t1 t2 : TypeId} (x0 : Blk u g0 c0 t0) (x1 : Blk u g1 c1 t1) (x2 : Blk u g2 c2 t2) (e0 : g0 ≠ R) (e1 : g1 ≠ R) (e2 : g2 ≠ R) (h : (∀ i, w'.cell? ⟨g0, i, none⟩ = c0[i]?) ∧ (∀ i, w'.cell? ⟨g1, i, none⟩ = c1[i]?) ∧ (∀ i, w'.cell? ⟨g2, i, none⟩ = c2[i]?) ∧ u.grownBy w' (some R)) (v0 v1 : Value) : (∀ i, ((w'.setCell ⟨R, 0, none⟩ v0).setCell ⟨R, 1, none⟩ v1).cell? ⟨g0, i, none⟩ = c0[i]?) ∧ (∀ i, ((w'.setCell ⟨R, 0, none⟩ v0).setCell ⟨R, 1, none⟩ v1).cell? ⟨g1, i, none⟩ = c1[i]?) ∧ (∀ i, ((w'.setCell ⟨R, 0, none⟩ v0).setCell ⟨R, 1, none⟩ v1).cell? ⟨g2, i, none⟩ = c2[i]?) ∧ u.grownBy ((w'.setCell ⟨R, 0, none⟩ v0).setCell ⟨R, 1, none⟩ v1) (some R) := keepR3_now x0 x1 x2 e0 e1 e2 (grown_set1 (grown_set1 h.2.2.2 _ _) _ _)
theorem keepR3_set3 {u w' : World} {R : Nat} {g0 g1 g2 : Nat} {c0 c1 c2 : Array Value} {t0 t1 t2 : TypeId} (x0 : Blk u g0 c0 t0) (x1 : Blk u g1 c1 t1) (x2 : Blk u g2 c2 t2) (e0 : g0 ≠ R) (e1 : g1 ≠ R) (e2 : g2 ≠ R) (h : (∀ i, w'.cell? ⟨g0, i, none⟩ = c0[i]?) ∧ (∀ i, w'.cell? ⟨g1, i, none⟩ = c1[i]?) ∧ (∀ i, w'.cell? ⟨g2, i, none⟩ = c2[i]?) ∧ u.grownBy w' (some R)) (v0 v1 v2 : Value) : (∀ i, (((w'.setCell ⟨R, 0, none⟩ v0).setCell ⟨R, 1, none⟩ v1).setCell ⟨R, 2, none⟩ v2).cell? ⟨g0, i, none⟩ = c0[i]?) ∧ (∀ i, (((w'.setCell ⟨R, 0, none⟩ v0).setCell ⟨R, 1, none⟩ v1).setCell ⟨R, 2, none⟩ v2).cell? ⟨g1, i, none⟩ = c1[i]?) ∧ (∀ i, (((w'.setCell ⟨R, 0, none⟩ v0).setCell ⟨R, 1, none⟩ v1).setCell ⟨R, 2, none⟩ v2).cell? ⟨g2, i, none⟩ = c2[i]?) ∧ u.grownBy (((w'.setCell ⟨R, 0, none⟩ v0).setCell ⟨R, 1, none⟩ v1).setCell ⟨R, 2, none⟩ v2) (some R) := keepR3_now x0 x1 x2 e0 e1 e2 (grown_set1 (grown_set1 (grown_set1 h.2.2.2 _ _) _ _) _ _)
theorem keepR3_set5 {u w' : World} {R : Nat} {g0 g1 g2 : Nat} {c0 c1 c2 : Array Value} {t0 t1 t2 : TypeId} (x0 : Blk u g0 c0 t0) (x1 : Blk u g1 c1 t1) (x2 : Blk u g2 c2 t2) (e0 : g0 ≠ R) (e1 : g1 ≠ R) (e2 : g2 ≠ R) (h : (∀ i, w'.cell? ⟨g0, i, none⟩ = c0[i]?) ∧ (∀ i, w'.cell? ⟨g1, i, none⟩ = c1[i]?) ∧ (∀ i, w'.cell? ⟨g2, i, none⟩ = c2[i]?) ∧ u.grownBy w' (some R)) (v0 v1 v2 v3 v4 : Value) : (∀ i, (((((w'.setCell ⟨R, 0, none⟩ v0).setCell ⟨R, 1, none⟩ v1).setCell ⟨R, 2, none⟩ v2).setCell ⟨R, 3, none⟩ v3).setCell ⟨R, 4, none⟩ v4).cell? ⟨g0, i, none⟩ = c0[i]?) ∧ (∀ i, (((((w'.setCell ⟨R, 0, none⟩ v0).setCell ⟨R, 1, none⟩ v1).setCell ⟨R, 2, none⟩ v2).setCell ⟨R, 3, none⟩ v3).setCell ⟨R, 4, none⟩ v4).cell? ⟨g1, i, none⟩ = c1[i]?) ∧ (∀ i, (((((w'.setCell ⟨R, 0, none⟩ v0).setCell ⟨R, 1, none⟩ v1).setCell ⟨R, 2, none⟩ v2).setCell ⟨R, 3, none⟩ v3).setCell ⟨R, 4, none⟩ v4).cell? ⟨g2, i, none⟩ = c2[i]?) ∧ u.grownBy (((((w'.setCell ⟨R, 0, none⟩ v0).setCell ⟨R, 1, none⟩ v1).setCell ⟨R, 2, none⟩ v2).setCell ⟨R, 3, none⟩ v3).setCell ⟨R, 4, none⟩ v4) (some R) := keepR3_now x0 x1 x2 e0 e1 e2 (grown_set1 (grown_set1 (grown_set1 (grown_set1 (grown_set1 h.2.2.2 _ _) _ _) _ _) _ _) _ _)
end Go.Proofs.Ytedfbaeajofmnaa

end

section

namespace Go.Proofs.Ytedfbaeajofmnaa
open Go Ieee Go.RowKit

theorem few_max {ys : List Nat} {m : List (Option Nat)} (h : Is ys m) : ys.length ≤ maxLen := by
  have := h.few
  unfold maxLen; omega

theorem row_heldR1 {w u w' : World} {R : Nat} {a : Option Addr} {vs : List Value} {A : Prop} (h : RowV w a vs) (hu : Below w.heap.size w u) (hR : w.heap.size ≤ R) (k : A ∧ u.grownBy w' (some R)) : RowV w' a vs := h.later (hu.grown k.2 hu.size (fun j hj => by cases hj; exact hR))
theorem row_heldR2 {w u w' : World} {R : Nat} {a : Option Addr} {vs : List Value} {A B : Prop} (h : RowV w a vs) (hu : Below w.heap.size w u) (hR : w.heap.size ≤ R) (k : A ∧ B ∧ u.grownBy w' (some R)) : RowV w' a vs := h.later (hu.grown k.2.2 hu.size (fun j hj => by cases hj; exact hR))

theorem out_box (u : World) (g i : Nat) (v : Value) : Out u (u.setCell ⟨g, i, none⟩ v) g (g + 1) :=
  ⟨by simp, fun j _ hd => heap_setCell_other u ⟨g, i, none⟩ j v (by dsimp only; omega)⟩

/-- lists that a call has made: the model's answer -/
structure OwnField (w w' : World) (m0 m1 m2 : List (Option Nat)) (a0 a1 a2 : Option Addr) (y0 y1 y2 : List Nat) : Prop where
  o0 : OwnV w' w.heap.size a0 (fvals y0)
  o1 : OwnV w' w.heap.size a1 (fvals y1)
  o2 : OwnV w' w.heap.size a2 (fvals y2)
  s0 : Is y0 m0
  s1 : Is y1 m1
  s2 : Is y2 m2
  below : Below w.heap.size w w'

theorem OwnField.none {w w' : World} (b : Below w.heap.size w w') : OwnField w w' [] [] [] none none none [] [] [] := ⟨nil_own _ _, nil_own _ _, nil_own _ _, Is.nil, Is.nil, Is.nil, b⟩

theorem GotField.own {w w' : World} {m0 m1 m2 : List (Option Nat)} {a0 a1 a2 : Option Addr} {y0 y1 y2 : List Nat} (h : GotField w.heap.size w w' m0 m1 m2 a0 a1 a2 y0 y1 y2) : OwnField w w' m0 m1 m2 a0 a1 a2 y0 y1 y2 := ⟨h.o0, h.o1, h.o2, h.s0, h.s1, h.s2, h.below⟩

/-- an answer that lies in a box -/
structure MetField (u wx : World) (bw : Nat) (m0 m1 m2 : List (Option Nat)) (a0 a1 a2 : Option Addr) (c0 c1 c2 : Nat) (y0 y1 y2 : List Nat) : Prop where
  below : Below u.heap.size u wx
  le : u.heap.size ≤ bw
  box : Blk wx bw #[.slice a0 y0.length c0, .slice a1 y1.length c1, .slice a2 y2.length c2] 38
  r0 : RowV wx a0 (fvals y0)
  r1 : RowV wx a1 (fvals y1)
  r2 : RowV wx a2 (fvals y2)
  s0 : Is y0 m0
  s1 : Is y1 m1
  s2 : Is y2 m2

def RelField (u : World) (m0 m1 m2 : List (Option Nat)) (b : Bool) (s t : Value) (wx : World) : Prop := ∃ (bw : Nat) (a0 a1 a2 : Option Addr) (c0 c1 c2 : Nat) (y0 y1 y2 : List Nat), s = .pointer (some ⟨bw, 0, none⟩) ∧ t = .bool b ∧ MetField u wx bw  m0 m1 m2 a0 a1 a2 c0 c1 c2 y0 y1 y2

theorem MetField.last {u v : World} {vc : Nat} {m0 m1 m2 : List (Option Nat)} {a0 a1 a2 : Option Addr} {c0 c1 c2 : Nat} {y0 y1 y2 : List Nat} (hb : Below u.heap.size u v) (o0 : OwnV v vc a0 (fvals y0)) (o1 : OwnV v vc a1 (fvals y1)) (o2 : OwnV v vc a2 (fvals y2)) (s0 : Is y0 m0) (s1 : Is y1 m1) (s2 : Is y2 m2) : MetField u (v.alloc (.cells #[.slice a0 y0.length c0, .slice a1 y1.length c1, .slice a2 y2.length c2] 38)) v.heap.size  m0 m1 m2 a0 a1 a2 c0 c1 c2 y0 y1 y2 :=
  ⟨below_next hb (below_new _ _), hb.size, Blk.new v _ _, o0.row.later (below_new _ _), o1.row.later (below_new _ _), o2.row.later (below_new _ _), s0, s1, s2⟩

theorem MetField.early {u v : World} {vc : Nat} {m0 m1 m2 : List (Option Nat)} {a0 a1 a2 : Option Addr} {c0 c1 c2 : Nat} {y0 y1 y2 : List Nat} {bw : Nat} {n0 n1 n2 : Value} (hb : Below u.heap.size u v) (le : u.heap.size ≤ bw) (lt : bw < vc) (hx : Blk v bw #[n0, n1, n2] 38) (o0 : OwnV v vc a0 (fvals y0)) (o1 : OwnV v vc a1 (fvals y1)) (o2 : OwnV v vc a2 (fvals y2)) (s0 : Is y0 m0) (s1 : Is y1 m1) (s2 : Is y2 m2) : MetField u (((v.setCell ⟨bw, 0, none⟩ (.slice a0 y0.length c0)).setCell ⟨bw, 1, none⟩ (.slice a1 y1.length c1)).setCell ⟨bw, 2, none⟩ (.slice a2 y2.length c2)) bw  m0 m1 m2 a0 a1 a2 c0 c1 c2 y0 y1 y2 :=
  ⟨(((hb.setCell (p := ⟨bw, 0, none⟩) le _).setCell (p := ⟨bw, 1, none⟩) le _).setCell (p := ⟨bw, 2, none⟩) le _), le, (((hx.set 0 _).set 1 _).set 2 _), (((o0.set (p := ⟨bw, 0, none⟩) (ne_of_span (b := bw) o0.span (by omega)) _).set (p := ⟨bw, 1, none⟩) (ne_of_span (b := bw) o0.span (by omega)) _).set (p := ⟨bw, 2, none⟩) (ne_of_span (b := bw) o0.span (by omega)) _).row, (((o1.set (p := ⟨bw, 0, none⟩) (ne_of_span (b := bw) o1.span (by omega)) _).set (p := ⟨bw, 1, none⟩) (ne_of_span (b := bw) o1.span (by omega)) _).set (p := ⟨bw, 2, none⟩) (ne_of_span (b := bw) o1.span (by omega)) _).row, (((o2.set (p := ⟨bw, 0, none⟩) (ne_of_span (b := bw) o2.span (by omega)) _).set (p := ⟨bw, 1, none⟩) (ne_of_span (b := bw) o2.span (by omega)) _).set (p := ⟨bw, 2, none⟩) (ne_of_span (b := bw) o2.span (by omega)) _).row, s0, s1, s2⟩

/-- lists that a call has made: the model's answer -/
structure OwnSheet (w w' : World) (m0 m1 : List (Option Nat)) (a0 a1 : Option Addr) (y0 y1 : List Nat) : Prop where
  o0 : OwnV w' w.heap.size a0 (fvals y0)
  o1 : OwnV w' w.heap.size a1 (fvals y1)
  s0 : Is y0 m0
  s1 : Is y1 m1
  below : Below w.heap.size w w'

theorem OwnSheet.none {w w' : World} (b : Below w.heap.size w w') : OwnSheet w w' [] [] none none [] [] := ⟨nil_own _ _, nil_own _ _, Is.nil, Is.nil, b⟩

theorem GotSheet.own {w w' : World} {m0 m1 : List (Option Nat)} {a0 a1 : Option Addr} {y0 y1 : List Nat} (h : GotSheet w.heap.size w w' m0 m1 a0 a1 y0 y1) : OwnSheet w w' m0 m1 a0 a1 y0 y1 := ⟨h.o0, h.o1, h.s0, h.s1, h.below⟩

/-- an answer that lies in a box -/
structure MetSheet (u wx : World) (bw : Nat) (v0 v1 v2 : Value) (m0 m1 : List (Option Nat)) (a0 a1 : Option Addr) (c0 c1 : Nat) (y0 y1 : List Nat) : Prop where
  below : Below u.heap.size u wx
  le : u.heap.size ≤ bw
  box : Blk wx bw #[v0, v1, v2, .slice a0 y0.length c0, .slice a1 y1.length c1] 29
  r0 : RowV wx a0 (fvals y0)
  r1 : RowV wx a1 (fvals y1)
  s0 : Is y0 m0
  s1 : Is y1 m1

def RelSheet (u : World) (v0 v1 v2 : Value) (m0 m1 : List (Option Nat)) (b : Bool) (s t : Value) (wx : World) : Prop := ∃ (bw : Nat) (a0 a1 : Option Addr) (c0 c1 : Nat) (y0 y1 : List Nat), s = .pointer (some ⟨bw, 0, none⟩) ∧ t = .bool b ∧ MetSheet u wx bw v0 v1 v2 m0 m1 a0 a1 c0 c1 y0 y1

theorem MetSheet.last {u v : World} {vc : Nat} {v0 v1 v2 : Value} {m0 m1 : List (Option Nat)} {a0 a1 : Option Addr} {c0 c1 : Nat} {y0 y1 : List Nat} (hb : Below u.heap.size u v) (o0 : OwnV v vc a0 (fvals y0)) (o1 : OwnV v vc a1 (fvals y1)) (s0 : Is y0 m0) (s1 : Is y1 m1) : MetSheet u (v.alloc (.cells #[v0, v1, v2, .slice a0 y0.length c0, .slice a1 y1.length c1] 29)) v.heap.size v0 v1 v2 m0 m1 a0 a1 c0 c1 y0 y1 :=
  ⟨below_next hb (below_new _ _), hb.size, Blk.new v _ _, o0.row.later (below_new _ _), o1.row.later (below_new _ _), s0, s1⟩

theorem MetSheet.early {u v : World} {vc : Nat} {v0 v1 v2 : Value} {m0 m1 : List (Option Nat)} {a0 a1 : Option Addr} {c0 c1 : Nat} {y0 y1 : List Nat} {bw : Nat} {n0 n1 n2 n3 n4 : Value} (hb : Below u.heap.size u v) (le : u.heap.size ≤ bw) (lt : bw < vc) (hx : Blk v bw #[n0, n1, n2, n3, n4] 29) (o0 : OwnV v vc a0 (fvals y0)) (o1 : OwnV v vc a1 (fvals y1)) (s0 : Is y0 m0) (s1 : Is y1 m1) : MetSheet u (((((v.setCell ⟨bw, 0, none⟩ v0).setCell ⟨bw, 1, none⟩ v1).setCell ⟨bw, 2, none⟩ v2).setCell ⟨bw, 3, none⟩ (.slice a0 y0.length c0)).setCell ⟨bw, 4, none⟩ (.slice a1 y1.length c1)) bw v0 v1 v2 m0 m1 a0 a1 c0 c1 y0 y1 :=
  ⟨(((((hb.setCell (p := ⟨bw, 0, none⟩) le _).setCell (p := ⟨bw, 1, none⟩) le _).setCell (p := ⟨bw, 2, none⟩) le _).setCell (p := ⟨bw, 3, none⟩) le _).setCell (p := ⟨bw, 4, none⟩) le _), le, (((((hx.set 0 _).set 1 _).set 2 _).set 3 _).set 4 _), (((((o0.set (p := ⟨bw, 0, none⟩) (ne_of_span (b := bw) o0.span (by omega)) _).set (p := ⟨bw, 1, none⟩) (ne_of_span (b := bw) o0.span (by omega)) _).set (p := ⟨bw, 2, none⟩) (ne_of_span (b := bw) o0.span (by omega)) _).set (p := ⟨bw, 3, none⟩) (ne_of_span (b := bw) o0.span (by omega)) _).set (p := ⟨bw, 4, none⟩) (ne_of_span (b := bw) o0.span (by omega)) _).row, (((((o1.set (p := ⟨bw, 0, none⟩) (ne_of_span (b := bw) o1.span (by omega)) _).set (p := ⟨bw, 1, none⟩) (ne_of_span (b := bw) o1.span (by omega)) _).set (p := ⟨bw, 2, none⟩) (ne_of_span (b := bw) o1.span (by omega)) _).set (p := ⟨bw, 3, none⟩) (ne_of_span (b := bw) o1.span (by omega)) _).set (p := ⟨bw, 4, none⟩) (ne_of_span (b := bw) o1.span (by omega)) _).row, s0, s1⟩

theorem keep1_now {u w'' : World} {g0 : Nat} {c0 : Array Value} {t0 : TypeId} (x0 : Blk u g0 c0 t0) (B : Below u.heap.size u w'') : (∀ i, w''.cell? ⟨g0, i, none⟩ = c0[i]?) ∧ Below u.heap.size u w'' := ⟨(x0.below B x0.lt).open.1, B⟩

theorem keep2_now {u w'' : World} {g0 g1 : Nat} {c0 c1 : Array Value} {t0 t1 : TypeId} (x0 : Blk u g0 c0 t0) (x1 : Blk u g1 c1 t1) (B : Below u.heap.size u w'') : (∀ i, w''.cell? ⟨g0, i, none⟩ = c0[i]?) ∧ (∀ i, w''.cell? ⟨g1, i, none⟩ = c1[i]?) ∧ Below u.heap.size u w'' := ⟨(x0.below B x0.lt).open.1, (x1.below B x1.lt).open.1, B⟩

theorem keep3_now {u w'' : World} {g0 g1 g2 : Nat} {c0 c1 c2 : Array Value} {t0 t1 t2 : TypeId} (x0 : Blk u g0 c0 t0) (x1 : Blk u g1 c1 t1) (x2 : Blk u g2 c2 t2) (B : Below u.heap.size u w'') : (∀ i, w''.cell? ⟨g0, i, none⟩ = c0[i]?) ∧ (∀ i, w''.cell? ⟨g1, i, none⟩ = c1[i]?) ∧ (∀ i, w''.cell? ⟨g2, i, none⟩ = c2[i]?) ∧ Below u.heap.size u w'' := ⟨(x0.below B x0.lt).open.1, (x1.below B x1.lt).open.1, (x2.below B x2.lt).open.1, B⟩

theorem keep4_now {u w'' : World} {g0 g1 g2 g3 : Nat} {c0 c1 c2 c3 : Array Value} {t0 t1 t2 t3 : TypeId} (x0 : Blk u g0 c0 t0) (x1 : Blk u g1 c1 t1) (x2 : Blk u g2 c2 t2) (x3 : Blk u g3 c3 t3) (B : Below u.heap.size u w'') : (∀ i, w''.cell? ⟨g0, i, none⟩ = c0[i]?) ∧ (∀ i, w''.cell? ⟨g1, i, none⟩ = c1[i]?) ∧ (∀ i, w''.cell? ⟨g2, i, none⟩ = c2[i]?) ∧ (∀ i, w''.cell? ⟨g3, i, none⟩ = c3[i]?) ∧ Below u.heap.size u w'' := ⟨(x0.below B x0.lt).open.1, (x1.below B x1.lt).open.1, (x2.below B x2.lt).open.1, (x3.below B x3.lt).open.1, B⟩
end Go.Proofs.Ytedfbaeajofmnaa

end

section

namespace Go.Proofs.Ytedfbaeajofmnaa
open Go Ieee Go.RowKit

theorem lt_new {X Y : World} {o : Obj} (b : Below (X.alloc o).heap.size (X.alloc o) Y) : X.heap.size < Y.heap.size := by
  have := b.size
  simp at this; omega

theorem lt_newd {X Y : World} {o : Obj} (b : Below (X.alloc o).drew.heap.size (X.alloc o).drew Y) : X.heap.size < Y.heap.size := by
  have := b.size
  simp at this; omega

theorem lt_here (X : World) (o : Obj) : X.heap.size < (X.alloc o).heap.size := by simp

theorem lt_hered (X : World) (o : Obj) : X.heap.size < (X.alloc o).drew.heap.size := by simp
end Go.Proofs.Ytedfbaeajofmnaa

end
