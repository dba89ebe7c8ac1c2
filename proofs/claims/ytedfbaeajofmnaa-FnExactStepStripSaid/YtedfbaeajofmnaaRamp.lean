/- Fields that become less towards the edges: the program's answer and the model's. Conditions: none beyond those of each theorem. -/
import Derived.Test.YtedfbaeajofmnaaNear
import Derived.Test.YtedfbaeajofmnaaStilled
import Derived.Test.YtedfbaeajofmnaaBu14
import Derived.Test.YtedfbaeajofmnaaFlz
namespace Go.Proofs.Ytedfbaeajofmnaa
open Go Ieee Go.RowKit
set_option linter.unusedVariables false
set_option linter.unusedSimpArgs false

def widthB (wi : Int) : Bool := decide (1 ≤ wi ∧ wi ≤ 16)
def rampB (wd hi : Int) (wb : Bool) (xs ys e x y : List Nat) (wi : Int) : Bool := fieldB wd hi wb xs ys e x y && widthB wi
def nearP (wd hi wi : Int) (i : Nat) : Bool := decide (depI wd hi ((i : Int) % wd) ((i : Int) / wd) < wi)
def rampG (wd hi wi : Int) (e : List Nat) (i : Nat) : Option Nat := fop .mul .f32 (canon .f32 (e.getD i 0)) (partC wi (depI wd hi ((i : Int) % wd) ((i : Int) / wd)))

theorem implWidth (wi : Int) (w : World) : Calls Try.prog 83 #[.int .i64 wi] w fun e w' => e = .returned (.bool (widthB wi)) ∧ w = w' := by
  by_cases h1 : 1 ≤ wi
  · have d1 : decide (1 ≤ wi) = true := decide_eq_true h1
    rw [show widthB wi = decide (wi ≤ 16) by unfold widthB; rw [decide_eq_decide]; omega]
    go_enter Try.func83, Try.ntmps83
    go_wp2
    go_ret
    exact ⟨rfl, rfl⟩
  · have d1 : decide (1 ≤ wi) = false := decide_eq_false h1
    rw [show widthB wi = false by unfold widthB; rw [decide_eq_false]; omega]
    go_enter Try.func83, Try.ntmps83
    go_wp2
    go_ret
    exact ⟨rfl, rfl⟩

theorem rampO_no {w : World} {b : Bool} {m0 m1 m2 : List (Option Nat)} {r : Ending} {w' : World} (hb : b = false) (h : GaveO w false m0 m1 m2 r w') : GaveO w b m0 m1 m2 r w' := by subst hb; exact h
theorem ownO_no {w : World} {b : Bool} {m0 m1 m2 : List (Option Nat)} {r : Ending} {w' : World} (hb : b = false) (h : OwnO w false m0 m1 m2 r w') : OwnO w b m0 m1 m2 r w' := by subst hb; exact h
theorem gaveO_yes {w : World} {b : Bool} {m0 m1 m2 : List (Option Nat)} {a0 a1 a2 : Option Addr} {c0 c1 c2 n : Nat} {y0 y1 y2 : List Nat} {w' : World} (hb : b = true) (h0 : y0.length = n) (h1 : y1.length = n) (h2 : y2.length = n) (h : GotField w.heap.size w w' m0 m1 m2 a0 a1 a2 y0 y1 y2) :
    GaveO w b m0 m1 m2 (.returned (.tuple #[.agg #[.slice a0 n c0, .slice a1 n c1, .slice a2 n c2], .bool true])) w' := by
  subst hb; exact ⟨a0, a1, a2, c0, c1, c2, y0, y1, y2, by rw [h0, h1, h2], h⟩
theorem ownO_yes {w : World} {b : Bool} {m0 m1 m2 : List (Option Nat)} {a0 a1 a2 : Option Addr} {c0 c1 c2 n : Nat} {y0 y1 y2 : List Nat} {w' : World} (hb : b = true) (h0 : y0.length = n) (h1 : y1.length = n) (h2 : y2.length = n) (h : OwnField w w' m0 m1 m2 a0 a1 a2 y0 y1 y2) :
    OwnO w b m0 m1 m2 (.returned (.tuple #[.agg #[.slice a0 n c0, .slice a1 n c1, .slice a2 n c2], .bool true])) w' := by
  subst hb; exact ⟨a0, a1, a2, c0, c1, c2, y0, y1, y2, by rw [h0, h1, h2], h⟩

theorem zin_le {p : Int → Int → Bool} {wd : Int} {xs L : List Nat} (hl : L.length = xs.length) (h : ∀ i, i < xs.length → nzB (xs.getD i 0) = false → nzB (L.getD i 0) = false) (hz : zin p wd xs = true) : zin p wd L = true := by
  refine zin_true fun i hi => ?_
  unfold zin at hz
  have h1 := List.all_eq_true.1 hz i (List.mem_range.2 (by omega))
  simp only [Bool.not_eq_true', Bool.and_eq_false_iff] at h1 ⊢
  rcases h1 with h1 | h1
  · exact .inl (h i (by omega) h1)
  · exact .inr h1

theorem canon_zero' : canon .f32 0 = some 0 ∧ canon .f32 2147483648 = some 2147483648 := by decide +kernel

theorem ramp_fits {wd hi wi : Int} {wb : Bool} {e x y L : List Nat} {n : Nat} (s1 : 3 ≤ wd) (hn : wd * hi = n) (w1 : 1 ≤ wi) (w2 : wi ≤ 16) (he : e.length = n) (q0 : ∀ z ∈ e, z < 2 ^ 32) (hf : fitsB wd hi wb e x y = true) (h : ChgTo (nearP wd hi wi) (rampG wd hi wi e) e n L) : fitsB wd hi wb L x y = true := by
  unfold fitsB at hf ⊢
  simp only [Bool.and_eq_true, decide_eq_true_eq] at hf ⊢
  obtain ⟨⟨l0, l1, l2⟩, z0, z1, z2⟩ := hf
  refine ⟨⟨by rw [h.len]; exact l0, l1, l2⟩, zin_le h.len (fun i hi' hz => ?_) z0, z1, z2⟩
  have hie : e.getD i 0 < 2 ^ 32 := by rw [getD_get hi']; exact q0 _ (List.getElem_mem hi')
  have hc := h.num i hi' (by omega)
  have hz2 := nz_zero hie hz
  have hL : canon .f32 (L.getD i 0) = some (e.getD i 0) := by
    rw [hc]
    split
    · rename_i hp
      have hd : depI wd hi ((i : Int) % wd) ((i : Int) / wd) < wi := of_decide_eq_true hp
      have hd0 := (dep_in (split_in s1 hn (show i < n by omega))).1
      unfold rampG
      obtain ⟨a, ha⟩ := Int.eq_ofNat_of_zero_le (show 0 ≤ wi by omega)
      obtain ⟨b, hb⟩ := Int.eq_ofNat_of_zero_le hd0
      rw [hb, ha]
      have pz := part_zeros a (List.mem_range.2 (by omega)) b (List.mem_range.2 (by omega)) (by omega) (by omega)
      rcases hz2 with h2 | h2 <;> rw [h2]
      · rw [canon_zero'.1]; exact pz.1
      · rw [canon_zero'.2]; exact pz.2
    · rcases hz2 with h2 | h2 <;> rw [h2]
      · exact canon_zero'.1
      · exact canon_zero'.2
  have hb := (canon_some hL).1
  rcases hz2 with h2 | h2
  · rw [h2] at hb; rw [← hb]; decide +kernel
  · rw [h2] at hb; rw [← hb]; decide +kernel

end Go.Proofs.Ytedfbaeajofmnaa
