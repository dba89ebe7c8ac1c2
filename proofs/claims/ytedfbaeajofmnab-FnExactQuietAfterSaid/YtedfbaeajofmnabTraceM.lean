/- Lists that traces hand back: what they must hold. Conditions: none beyond those of each theorem. -/
import Derived.Test.YtedfbaeajofmnabBu22
import Derived.Test.YtedfbaeajofmnabBu14
import Derived.Test.YtedfbaeajofmnabBu15
namespace Go.Proofs.Ytedfbaeajofmnab
open Go Ieee Go.RowKit
set_option linter.unusedVariables false

def GaveLO (w : World) (b : Bool) (M : List (Option Nat)) (r : Ending) (w' : World) : Prop :=
  ∃ (a : Option Addr) (c : Nat) (y : List Nat), r = .returned (.tuple #[.slice a y.length c, .bool b]) ∧ GotList w.heap.size w w' (ifO b M) a y

theorem is_list {N : Nat} {zs : List Nat} {mv : Nat → Option Nat} (h1 : zs.length = N) (h2 : ∀ z ∈ zs, z < 2 ^ 32) (h3 : ∀ j, j < N → canon .f32 (zs.getD j 0) = mv j) (hN : N ≤ 256) : Is zs ((List.range N).map mv) := is_lag ⟨h1, h2, h3⟩ hN

def trB (wd hi : Int) (wb : Bool) (xs ys e x y : List Nat) (u v steps : Int) : Bool := runB wd hi wb xs ys e x y steps && cellB wd hi u v
def trM (wd hi : Int) (wb : Bool) (xs ys e x y : List Nat) (u v steps : Int) : List (Option Nat) := (List.range steps.toNat).map fun j => (runT wb wd.toNat hi.toNat (nums xs) (nums ys) ⟨nums e, nums x, nums y⟩ (j + 1)).e (u + wd * v).toNat

/-- sums over steps, cell by cell -/
def sumT (T : Nat → Trip) : Nat → Nat → Option Nat
  | 0, _ => canon .f32 0
  | j + 1, i => fop .add .f32 (sumT T j i) ((T (j + 1)).e i)
theorem lag_zeros (T : Nat → Trip) (n : Nat) : LAg n (List.replicate n 0) (sumT T 0) := ⟨by simp, fun z hz => by rw [(List.mem_replicate.1 hz).2]; decide, fun i hi => by unfold nums sumT; rw [List.getD_eq_getElem?_getD, List.getElem?_replicate]; simp [hi]⟩
def smM (wd hi : Int) (wb : Bool) (xs ys e x y : List Nat) (steps : Int) : List (Option Nat) := oL wd hi (sumT (fun j => runT wb wd.toNat hi.toNat (nums xs) (nums ys) ⟨nums e, nums x, nums y⟩ j) steps.toNat)

theorem gave_none {w w' : World} {M : List (Option Nat)} (h : Below w.heap.size w w') : GaveLO w false M (.returned (.tuple #[.slice none 0 0, .bool false])) w' := ⟨none, 0, [], rfl, GotList.none h⟩
theorem gave_list {w w' : World} {N g c : Nat} {zs : List Nat} {mv : Nat → Option Nat} (h1 : zs.length = N) (h2 : ∀ z ∈ zs, z < 2 ^ 32) (h3 : ∀ j, j < N → canon .f32 (zs.getD j 0) = mv j) (hN : N ≤ 256) (h4 : OwnV w' w.heap.size (some ⟨g, 0, none⟩) (fvals zs)) (h : Below w.heap.size w w') : GaveLO w true ((List.range N).map mv) (.returned (.tuple #[.slice (some ⟨g, 0, none⟩) N c, .bool true])) w' :=
  ⟨some ⟨g, 0, none⟩, c, zs, by rw [h1], h4, is_list h1 h2 h3 hN, h⟩

end Go.Proofs.Ytedfbaeajofmnab
