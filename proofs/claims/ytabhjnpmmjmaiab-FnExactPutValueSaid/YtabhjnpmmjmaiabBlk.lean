/- Blocks of memory that are known whole, lists that a call owns, and marks in them. Conditions: none beyond those of each theorem. -/
import Derived.Test.YtabhjnpmmjmaiabSumLaws
namespace Go.Proofs.Ytabhjnpmmjmaiab
open Go Ieee Go.RowKit

/-- block g holds these cells, and none of them is frozen -/
def Blk (w : World) (g : Nat) (cs : Array Value) (e : TypeId) : Prop := w.heap[g]? = some (.cells cs e (0, 0))

section
variable {w w' : World} {g B : Nat} {cs : Array Value} {e : TypeId}

theorem Blk.lt (h : Blk w g cs e) : g < w.heap.size := by
  unfold Blk at h
  rcases Nat.lt_or_ge g w.heap.size with a | a
  · exact a
  · rw [Array.getElem?_eq_none a] at h; cases h

theorem Blk.new (w : World) (cs : Array Value) (e : TypeId) : Blk (w.alloc (.cells cs e)) w.heap.size cs e := heap_alloc_new w _

theorem Blk.new1 (w : World) (o : Obj) (cs : Array Value) (e : TypeId) : Blk ((w.alloc o).alloc (.cells cs e)) (w.heap.size + 1) cs e := heap_alloc2_new w o _

theorem Blk.new2 (w : World) (o q : Obj) (cs : Array Value) (e : TypeId) : Blk (((w.alloc o).alloc q).alloc (.cells cs e)) (w.heap.size + 1 + 1) cs e := by
  have := heap_alloc2_new (w.alloc o) q (.cells cs e)
  rwa [show (w.alloc o).heap.size = w.heap.size + 1 by show (w.heap.push o).size = _; simp] at this

theorem Blk.new3 (w : World) (o q r : Obj) (cs : Array Value) (e : TypeId) : Blk ((((w.alloc o).alloc q).alloc r).alloc (.cells cs e)) (w.heap.size + 1 + 1 + 1) cs e := by
  have := Blk.new2 (w.alloc o) q r cs e
  rwa [show (w.alloc o).heap.size = w.heap.size + 1 by show (w.heap.push o).size = _; simp] at this

theorem Blk.alloc (h : Blk w g cs e) (o : Obj) : Blk (w.alloc o) g cs e := (Below.heap_alloc w o g h.lt).trans h

theorem Blk.below (h : Blk w g cs e) (hb : Below B w w') (hg : g < B) : Blk w' g cs e := (hb.block g hg).trans h

theorem Blk.later (h : Blk w g cs e) (hb : Below w.heap.size w w') : Blk w' g cs e := h.below hb h.lt

theorem Blk.drewN (h : Blk w g cs e) (n : Nat) : Blk (w.drewN n) g cs e := h

theorem Blk.set (h : Blk w g cs e) (i : Nat) (v : Value) : Blk (w.setCell ⟨g, i, none⟩ v) g (cs.setIfInBounds i v) e := heap_setCell_same w g i cs e v h

theorem Blk.setOther (h : Blk w g cs e) {p : Addr} (hp : g ≠ p.block) (v : Value) : Blk (w.setCell p v) g cs e := (heap_setCell_other w p g v hp).trans h

theorem Blk.grown (h : Blk w g cs e) {r : Option Nat} (hb : w.grownBy w' r) (hr : some g ≠ r) : Blk w' g cs e := (hb.block g h.lt hr).trans h

theorem Blk.open (h : Blk w g cs e) : (∀ i, w.cell? ⟨g, i, none⟩ = cs[i]?) ∧ (∀ i, w.frozen? ⟨g, i, none⟩ = false) :=
  ⟨fun i => cell_of_row w g i cs e (0, 0) h, fun i => frozen_of_row w g i cs e h⟩
end

/-- the call owns a list: it is nil, or lies at the head of a block from B on that is not frozen -/
def OwnV (w : World) (B : Nat) (a : Option Addr) (vs : List Value) : Prop :=
  (a = none ∧ vs = []) ∨ ∃ (g : Nat) (cs : Array Value) (e : TypeId), a = some ⟨g, 0, none⟩ ∧ B ≤ g ∧ Blk w g cs e ∧ ∀ (i : Nat) (u : Value), vs[i]? = some u → cs[i]? = some u

/-- two lists lie in different blocks -/
def Apart (a b : Option Addr) : Prop := ∀ x y, a = some x → b = some y → x.block ≠ y.block

theorem Apart.symm {a b : Option Addr} (h : Apart a b) : Apart b a := fun x y hx hy => Ne.symm (h y x hy hx)
theorem Apart.nil (b : Option Addr) : Apart none b := fun _ _ h => by cases h

/-- the block in which a list lies -/
def blockOf (a : Option Addr) : Option Nat := a.map (·.block)

section
variable {w w' : World} {B : Nat} {a b : Option Addr} {vs : List Value}

theorem OwnV.row (h : OwnV w B a vs) : RowV w a vs := by
  rcases h with ⟨_, rfl⟩ | ⟨g, cs, e, rfl, _, hb, hv⟩
  · intro i u hu; cases hu
  · intro i u hu
    exact ⟨g, 0, rfl, by rw [Nat.zero_add, hb.open.1 i]; exact hv i u hu⟩

theorem OwnV.later (h : OwnV w B a vs) (hb : Below w.heap.size w w') : OwnV w' B a vs := by
  rcases h with h | ⟨g, cs, e, ha, hg, hc, hv⟩
  · exact .inl h
  · exact .inr ⟨g, cs, e, ha, hg, hc.later hb, hv⟩

theorem OwnV.drewN (h : OwnV w B a vs) (n : Nat) : OwnV (w.drewN n) B a vs := h

theorem OwnV.lower {C : Nat} (h : OwnV w B a vs) (hC : C ≤ B) : OwnV w C a vs := by
  rcases h with h | ⟨g, cs, e, ha, hg, hc⟩
  · exact .inl h
  · exact .inr ⟨g, cs, e, ha, Nat.le_trans hC hg, hc⟩

theorem OwnV.grown (h : OwnV w B a vs) {r : Option Nat} (hb : w.grownBy w' r) (hr : ∀ x, a = some x → some x.block ≠ r) : OwnV w' B a vs := by
  rcases h with h | ⟨g, cs, e, rfl, hg, hc, hv⟩
  · exact .inl h
  · exact .inr ⟨g, cs, e, rfl, hg, hc.grown hb (hr _ rfl), hv⟩

theorem RowV.grown (h : RowV w a vs) {r : Option Nat} (hb : w.grownBy w' r) (hr : ∀ x, a = some x → vs ≠ [] → some x.block ≠ r) : RowV w' a vs := by
  intro i u hu
  obtain ⟨b, off, rfl, hc⟩ := h i u hu
  have hne : vs ≠ [] := by intro e; rw [e] at hu; cases hu
  refine ⟨b, off, rfl, ?_⟩
  rw [World.cell?_of_block (w := w) (w' := w') (a := ⟨b, off + i, none⟩) (hb.block b (lt_of_cell hc) (hr _ rfl hne))]
  exact hc

/-- a list that was there before does not lie in a block of the call's own -/
theorem RowV.old {w0 : World} {B : Nat} {c : Option Addr} {us : List Value} (h : RowV w0 a vs) (hB : w0.heap.size ≤ B) (k : OwnV w B c us) : ∀ x, a = some x → vs ≠ [] → some x.block ≠ blockOf c := by
  intro x hx hne e
  have := h.block_lt x hx hne
  rcases k with ⟨rfl, _⟩ | ⟨g, cs, t, rfl, hg, _⟩
  · cases e
  · unfold blockOf at e
    simp only [Option.map_some, Option.some.injEq] at e
    omega

theorem Apart.block (h : Apart a b) : ∀ x, a = some x → some x.block ≠ blockOf b := by
  intro x hx e
  cases b with
  | none => cases e
  | some y =>
    unfold blockOf at e
    simp only [Option.map_some, Option.some.injEq] at e
    exact h x y hx rfl e

theorem Apart.rowBlock (h : Apart a b) {us : List Value} : ∀ x, a = some x → us ≠ [] → some x.block ≠ blockOf b := fun x hx _ => h.block x hx

/-- a list that lies below a bound is apart from one from that bound on -/
theorem OwnV.apart {w0 : World} {A : Nat} {us : List Value} {c : Option Addr} (h : OwnV w0 A a vs) (hB : w0.heap.size ≤ B) (k : OwnV w B c us) : Apart a c := by
  intro x y hx hy
  rcases h with ⟨rfl, _⟩ | ⟨g, cs, e, rfl, _, hc, _⟩
  · cases hx
  · rcases k with ⟨rfl, _⟩ | ⟨g', cs', e', rfl, hg', _⟩
    · cases hy
    · cases hx; cases hy
      have := hc.lt
      show g ≠ g'
      omega

theorem OwnV.of_heap (h : OwnV w B a vs) (hh : ∀ x, a = some x → w'.heap[x.block]? = w.heap[x.block]?) : OwnV w' B a vs := by
  rcases h with h | ⟨g, cs, e, rfl, hg, hc, hv⟩
  · exact .inl h
  · exact .inr ⟨g, cs, e, rfl, hg, (hh _ rfl).trans hc, hv⟩

theorem OwnV.set (h : OwnV w B a vs) {p : Addr} (hr : ∀ x, a = some x → x.block ≠ p.block) (v : Value) : OwnV (w.setCell p v) B a vs :=
  h.of_heap fun x hx => heap_setCell_other w p x.block v (hr x hx)

theorem OwnV.of_owned {e : TypeId} {n cap : Nat} (h : w.ownsRow B e 1 (.slice a n cap) n vs) : OwnV w B a vs := by
  rcases h.2 with ⟨h', hn⟩ | ⟨g, cap', cur, h', hg, hh, _, _, _, ht⟩
  · simp only [Value.slice.injEq] at h'
    refine .inl ⟨h'.1, ?_⟩
    have := h.1
    rw [hn] at this
    exact List.eq_nil_of_length_eq_zero (by simpa using this)
  · simp only [Value.slice.injEq] at h'
    refine .inr ⟨g, cur, e, h'.1, hg, hh, fun i u hu => ?_⟩
    rw [← ht, List.getElem?_take] at hu
    split at hu
    · simpa using hu
    · cases hu
end

theorem Below.of_grown {w w' : World} {B : Nat} {r : Option Nat} (h : w.grownBy w' r) (hr : ∀ k, r = some k → B ≤ k) (hB : B ≤ w.heap.size) : Below B w w' :=
  (Below.refl B w).grown h hB hr

theorem OwnV.bound {w : World} {B : Nat} {a : Option Addr} {vs : List Value} (h : OwnV w B a vs) : ∀ k, blockOf a = some k → B ≤ k := by
  intro k hk
  rcases h with ⟨rfl, _⟩ | ⟨g, cs, e, rfl, hg, _⟩
  · cases hk
  · unfold blockOf at hk
    simp only [Option.map_some, Option.some.injEq] at hk
    omega

/-! ### Marks -/

def mk (k : Int) : Nat := floatOfInt .f32 k
theorem mk_canon (k : Int) : canon .f32 (mk k) = some (mk k) := by
  unfold mk floatOfInt FloatKind.nearest
  exact canon_of_not (write_notNaN .f32 rfl)

def marks (k : Int) (n : Nat) : List Nat := (List.range n).map fun (i : Nat) => mk (k + (i : Int))
theorem marks_length (k : Int) (n : Nat) : (marks k n).length = n := by simp [marks]
theorem marks_get {k : Int} {n i : Nat} (h : i < n) : (fvals (marks k n))[i]? = some (.float .f32 (mk (k + i))) := by
  rw [fvals_get (by rw [marks_length]; exact h)]
  simp [marks]

/-- a list behind i marks -/
def marked (k : Int) (vs : List Value) (i : Nat) : List Value := ((fvals (marks k vs.length)).take i) ++ vs.drop i
theorem marked_zero (k : Int) (vs : List Value) : marked k vs 0 = vs := by simp [marked]
theorem marked_all (k : Int) (vs : List Value) : marked k vs vs.length = fvals (marks k vs.length) := by
  unfold marked
  rw [List.drop_length, List.append_nil, List.take_of_length_le (by rw [fvals_length, marks_length]; exact Nat.le_refl _)]
theorem marked_length (k : Int) (vs : List Value) (i : Nat) (h : i ≤ vs.length) : (marked k vs i).length = vs.length := by
  unfold marked; simp [fvals_length, marks_length]; omega
theorem marked_next (k : Int) (vs : List Value) (i : Nat) (h : i < vs.length) : (marked k vs i).set i (.float .f32 (mk (k + i))) = marked k vs (i + 1) := by
  have hl := marked_length k vs i (by omega)
  apply List.ext_getElem?
  intro j
  rw [List.getElem?_set]
  by_cases hj : i = j
  · subst hj
    rw [if_pos rfl, hl, if_pos h]
    unfold marked
    rw [List.getElem?_append_left (by simp [fvals_length, marks_length]; omega), List.getElem?_take, if_pos (by omega), marks_get h]
  · rw [if_neg hj]
    unfold marked
    by_cases h2 : j < i
    · rw [List.getElem?_append_left (by simp [fvals_length, marks_length]; omega), List.getElem?_append_left (by simp [fvals_length, marks_length]; omega), List.getElem?_take, List.getElem?_take, if_pos h2, if_pos (by omega)]
    · rw [List.getElem?_append_right (by simp [fvals_length, marks_length]; omega), List.getElem?_append_right (by simp [fvals_length, marks_length]; omega)]
      simp only [List.length_take, fvals_length, marks_length, List.getElem?_drop]
      congr 1
      omega
end Go.Proofs.Ytabhjnpmmjmaiab
