/- Cells in which nothing is: the program's and the model's. Conditions: none beyond those of each theorem. -/
import Derived.Test.YtedfbaeajofmnaaBu14
import Derived.Test.YtedfbaeajofmnaaBu5
namespace Go.Proofs.Ytedfbaeajofmnaa
open Go Ieee Go.RowKit
set_option linter.unusedVariables false

def zB (x : Nat) : Bool := FloatKind.f32.format.order x 0 == some .eq
def farB (e x y : List Nat) (i : Nat) : Bool := zB (e.getD i 0) && (zB (x.getD i 0) && zB (y.getD i 0))
def farL (e x y : List Nat) (k : Nat) : List Int := ((List.range k).filter (farB e x y)).map fun (i : Nat) => (i : Int)

theorem farL_zero (e x y : List Nat) : farL e x y 0 = [] := rfl
theorem farL_yes {e x y : List Nat} {k : Nat} (h : farB e x y k = true) : farL e x y (k + 1) = farL e x y k ++ [(k : Int)] := by
  unfold farL; rw [List.range_succ, List.filter_append, List.map_append]; simp [List.filter_cons, h]
theorem farL_no {e x y : List Nat} {k : Nat} (h : farB e x y k = false) : farL e x y (k + 1) = farL e x y k := by
  unfold farL; rw [List.range_succ, List.filter_append, List.map_append]; simp [List.filter_cons, h]
theorem farL_few (e x y : List Nat) (k : Nat) : (farL e x y k).length ≤ k := by
  unfold farL; rw [List.length_map]; have := List.length_filter_le (farB e x y) (List.range k); rw [List.length_range] at this; exact this

/-- what a loop has appended so far, integers -/
def OutsI (w wr : World) (v : Value) (zs : List Int) : Prop := wr.ownsRow w.heap.size 2 1 v zs.length (ivals zs) ∧ Below w.heap.size w wr

theorem outsI_nil {w wr : World} (h : Below w.heap.size w wr) : OutsI w wr (.slice none 0 0) [] := ⟨⟨rfl, .inl ⟨rfl, rfl⟩⟩, h⟩

theorem outsI_start {w wr : World} (h : Below w.heap.size w wr) : OutsI w (wr.alloc (.cells #[] 2)) (.slice (some ⟨wr.heap.size, 0, none⟩) 0 0) [] :=
  ⟨World.ownsRow_made wr #[] 0 h.size (by decide) rfl, h.alloc h.size _⟩

theorem outsI_next {w wr w1 : World} {v v' : Value} {zs : List Int} {z : Int} {ob : Obj} (h : OutsI w wr v zs) (ho : w1.ownsRow w.heap.size 2 1 v' (zs.length + 1) (ivals zs ++ [.int .i64 z])) (hg : (wr.alloc ob).grownBy w1 v.ownBlock) : OutsI w w1 v' (zs ++ [z]) := by
  refine ⟨?_, ?_⟩
  · have e : ivals (zs ++ [z]) = ivals zs ++ [.int .i64 z] := by unfold ivals; rw [List.map_append]; rfl
    rw [e, List.length_append]; exact ho
  · have hz := h.2.size
    exact (h.2.alloc hz ob).grown hg (by simp; omega) (fun k hk => (h.1.lt k hk).1)

theorem outsI_end {w wr : World} {v : Value} {zs : List Int} (h : OutsI w wr v zs) : ∃ a c, v = .slice a zs.length c ∧ OwnV wr w.heap.size a (ivals zs) ∧ Below w.heap.size w wr := by
  rcases h.1.2 with ⟨hv, h0⟩ | ⟨g, cap, cur, hv, _⟩
  · have : zs = [] := List.eq_nil_of_length_eq_zero h0
    subst this; subst hv
    exact ⟨none, 0, rfl, .inl ⟨rfl, rfl⟩, h.2⟩
  · subst hv
    exact ⟨_, cap, rfl, OwnV.of_owned h.1, h.2⟩

theorem oneI_news (wr : World) (z : Int) : ∀ (j : Nat) (u : Value), [Value.int .i64 z][j]? = some u → (wr.alloc (.cells #[.int .i64 z] 2)).cell? ((⟨wr.heap.size, 0, none⟩ : Addr).add j) = some u := by
  intro j u hu
  cases j with
  | zero => simp at hu; subst hu; exact (Blk.new wr #[.int .i64 z] 2).open.1 0
  | succ j => simp at hu

theorem oneI_cells (z : Int) : ∀ u ∈ [Value.int .i64 z], u.oneCell' = true := by
  intro u hu; simp at hu; subst hu; rfl

def GaveI (w : World) (b : Bool) (z : List Int) (r : Ending) (w' : World) : Prop :=
  ∃ (a : Option Addr) (c : Nat) (y : List Int), r = .returned (.tuple #[.slice a y.length c, .bool b]) ∧ GotInts w.heap.size w w' (if b then z else []) a y

end Go.Proofs.Ytedfbaeajofmnaa
