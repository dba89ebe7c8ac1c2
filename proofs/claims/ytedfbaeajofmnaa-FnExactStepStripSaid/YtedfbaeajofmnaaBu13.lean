/- Several texts in one: facts on floats, lists, memory and the functions that the theorems beside this text use. Conditions: none beyond those of each theorem. -/
import Derived.Test.YtedfbaeajofmnaaBu2
import Derived.Deep.RegionHeld3

set_option linter.unusedVariables false

section

namespace Go.Proofs.Ytedfbaeajofmnaa
open Go Ieee Go.RowKit
set_option linter.unusedVariables false

section
variable {P : Program} {ops : Array Oper} {Q : Exit → Act → World → Prop} {md : Region.Mode} {S : World → Prop}

/-- may all of these be left out, one after another? (their slots: ds) -/
def skipB (md : Region.Mode) (ops : Array Oper) : List Nat → List Nat → Array Bool → Array Value → Bool
  | [], [], _, _ => true
  | i :: is, d :: ds, listed, t =>
    (match ops[i]? with
     | some o => o.dst == some d && !Region.wanted o (yielded ops t)
     | none => false) && (Region.free md ops listed i && ((Region.ready md ops listed).contains i && skipB md ops is ds (listed.setIfInBounds i true) (t.setIfInBounds d undef)))
  | _, _, _, _ => false

def skipT : List Nat → Array Value → Array Value
  | [], t => t
  | d :: ds, t => skipT ds (t.setIfInBounds d undef)

def skipL : List Nat → Array Bool → Array Bool
  | [], l => l
  | i :: is, l => skipL is (l.setIfInBounds i true)

theorem wpAnyH_skips (hs : Region.noSelect ops = true) (hQ : ∀ c (d : Tmp) (a : Act) w, Q (.panic c) (a.put (some d) undef) w → Q (.panic c) a w) :
    ∀ (is ds : List Nat) (fuel : Nat) (listed : Array Bool) (a : Act) (w : World), skipB md ops is ds listed a.tmps = true → S w →
      wpAnyH P md ops Q S fuel (skipL is listed) { a with tmps := skipT ds a.tmps } w → wpAnyH P md ops Q S (fuel + is.length) listed a w := by
  intro is
  induction is with
  | nil =>
    intro ds fuel listed a w hb hS h
    cases ds with
    | nil => exact h
    | cons d ds => cases hb
  | cons i is ih =>
    intro ds fuel listed a w hb hS h
    cases ds with
    | nil => cases hb
    | cons d ds =>
      unfold skipB at hb
      rw [Bool.and_eq_true, Bool.and_eq_true, Bool.and_eq_true] at hb
      obtain ⟨h1, h2, h3, h4⟩ := hb
      rcases ho : ops[i]? with _ | o
      · rw [ho] at h1; cases h1
      · rw [ho] at h1
        rw [Bool.and_eq_true] at h1
        have hd : o.dst = some d := by simpa using h1.1
        have hw : Region.wanted o (yielded ops a.tmps) = false := by simpa using h1.2
        have e : a.put o.dst undef = { a with tmps := a.tmps.setIfInBounds d undef } := by rw [hd]; rfl
        refine wpAnyH_take (fuel := fuel + is.length) (v := undef) ho hs h2 h3 (fun c a' w' hh => hQ c d a' w' (hd ▸ hh)) (Or.inr ⟨hw, rfl⟩) hS ?_
        rw [e]
        exact ih ds fuel _ _ w h4 hS h

theorem wpAnyH_skips_to {is ds : List Nat} {fuel : Nat} {listed l2 : Array Bool} {a a2 : Act} {w : World} (hs : Region.noSelect ops = true) (hQ : ∀ c (d : Tmp) (a : Act) w, Q (.panic c) (a.put (some d) undef) w → Q (.panic c) a w) (hb : skipB md ops is ds listed a.tmps = true) (hS : S w) (hl : skipL is listed = l2) (ht : { a with tmps := skipT ds a.tmps } = a2) (h : wpAnyH P md ops Q S fuel l2 a2 w) : wpAnyH P md ops Q S (fuel + is.length) listed a w :=
  wpAnyH_skips hs hQ is ds fuel listed a w hb hS (hl ▸ ht ▸ h)
end
end Go.Proofs.Ytedfbaeajofmnaa

end
