/- How many products a step needs: the program's answer and the model's. Conditions: none beyond those of each theorem. -/
import Derived.Test.YtedfbaeajofmnaaBu7
import Derived.Test.YtedfbaeajofmnaaBu14
import Derived.Test.YtedfbaeajofmnaaBu17
namespace Go.Proofs.Ytedfbaeajofmnaa
open Go Ieee Go.RowKit
set_option linter.unusedVariables false

/-- 2 for each of the first m cells that is not left as it is -/
def cnt (p : Int → Int → Bool) (wd : Int) : Nat → Int
  | 0 => 0
  | m + 1 => cnt p wd m + (if p ((m : Int) % wd) ((m : Int) / wd) then 0 else 2)

theorem cnt_in (p : Int → Int → Bool) (wd : Int) : ∀ m : Nat, 0 ≤ cnt p wd m ∧ cnt p wd m ≤ 2 * m
  | 0 => by unfold cnt; omega
  | m + 1 => by
    have := cnt_in p wd m
    unfold cnt
    split <;> omega

theorem cnt_yes {p : Int → Int → Bool} {wd : Int} {m : Nat} (h : p ((m : Int) % wd) ((m : Int) / wd) = true) : cnt p wd (m + 1) = cnt p wd m := by
  rw [cnt, h]; simp
theorem cnt_no {p : Int → Int → Bool} {wd : Int} {m : Nat} (h : p ((m : Int) % wd) ((m : Int) / wd) = false) : cnt p wd (m + 1) = cnt p wd m + 2 := by
  rw [cnt, h]; simp

def costI (wd hi : Int) (wb : Bool) : Int := if wb then 6 * wd * hi else 2 * wd * (hi - 1) + 2 * (wd - 1) * hi + 2 * (wd - 2) * (hi - 2)

theorem cost_all : ∀ a ∈ List.range 17, ∀ b ∈ List.range 17, ∀ wb : Bool, 3 ≤ a → 3 ≤ b → cnt (fun _ y => belowB wb (b : Int) y) (a : Int) (a * b) + cnt (fun x _ => besideB wb (a : Int) x) (a : Int) (a * b) + cnt (bordB wb (a : Int) (b : Int)) (a : Int) (a * b) = costI (a : Int) (b : Int) wb := by
  decide +kernel

theorem cost_eq {wd hi : Int} {n : Nat} (wb : Bool) (s1 : 3 ≤ wd) (s2 : wd ≤ 16) (s3 : 3 ≤ hi) (s4 : hi ≤ 16) (hn : wd * hi = n) : cnt (fun _ y => belowB wb hi y) wd n + cnt (fun x _ => besideB wb wd x) wd n + cnt (bordB wb wd hi) wd n = costI wd hi wb := by
  obtain ⟨a, rfl⟩ := Int.eq_ofNat_of_zero_le (show 0 ≤ wd by omega)
  obtain ⟨b, rfl⟩ := Int.eq_ofNat_of_zero_le (show 0 ≤ hi by omega)
  obtain rfl : n = a * b := by
    rw [← Int.natCast_mul] at hn; omega
  exact cost_all a (List.mem_range.2 (by omega)) b (List.mem_range.2 (by omega)) wb (by omega) (by omega)

/-- what two calls of a region answer -/
def SpTwo (f1 : FuncId) (V1 V2 : Value) (f : FuncId) (_ : Array Value) (v : Value) : Prop := v = if f == f1 then V1 else V2

end Go.Proofs.Ytedfbaeajofmnaa
