/- Several texts in one: facts on floats, lists, memory and the functions that the theorems beside this text use. Conditions: none beyond those of each theorem. -/
import Derived.Test.YtkcododhfliobabBu11
import Derived.Test.YtkcododhfliobabBu9
import Derived.Test.YtkcododhfliobabBu2
import Derived.Deep.RegionHeld3

set_option linter.unusedVariables false

section

namespace Go.Proofs.Ytkcododhfliobab
open Go Ieee Go.RowKit
set_option linter.unusedVariables false

structure Src where
  x : Int
  y : Int
  hd : Bool
  kd : Int
  wt : Int
  lg : Int
  tu : Nat
  sz : Nat
  sd : Int

def Src.cells (s : Src) : List Value := [.int .i64 s.x, .int .i64 s.y, .bool s.hd, .int .i64 s.kd, .int .i64 s.wt, .int .i64 s.lg, .float .f32 s.tu, .float .f32 s.sz, .int .i64 s.sd]
def Src.ok (s : Src) : Prop := s.tu < 2 ^ 32 ∧ s.sz < 2 ^ 32
instance : Inhabited Src := ⟨⟨0, 0, false, 0, 0, 0, 0, 0, 0⟩⟩

theorem flat_get {α : Type} (f : α → List Value) (c : Nat) (hc : ∀ x, (f x).length = c) {xs : List α} {k j : Nat} (hk : k < xs.length) (hj : j < c) : (xs.flatMap f)[k * c + j]? = (f xs[k])[j]? := by
  induction xs generalizing k with
  | nil => simp at hk
  | cons p xs ih =>
    rw [List.flatMap_cons]
    cases k with
    | zero =>
      rw [List.getElem?_append_left (by rw [hc]; omega)]
      simp
    | succ k =>
      have hk' : k < xs.length := by simpa using hk
      have e : (k + 1) * c + j = c + (k * c + j) := by rw [Nat.add_mul]; omega
      rw [e, List.getElem?_append_right (by rw [hc]; omega), hc, Nat.add_sub_cancel_left]
      simpa using ih hk'

theorem flat_length {α : Type} (f : α → List Value) (c : Nat) (hc : ∀ x, (f x).length = c) (xs : List α) : (xs.flatMap f).length = xs.length * c := by
  induction xs with
  | nil => simp
  | cons p xs ih => rw [List.flatMap_cons, List.length_append, hc, ih, List.length_cons, Nat.add_mul]; omega

def svals (ss : List Src) : List Value := ss.flatMap Src.cells
theorem svals_length (ss : List Src) : (svals ss).length = ss.length * 9 := flat_length _ 9 (fun _ => rfl) ss
theorem svals_get {ss : List Src} {k : Nat} (h : k < ss.length) (j : Nat) (hj : j < 9) : (svals ss)[k * 9 + j]? = ss[k].cells[j]? := flat_get _ 9 (fun _ => rfl) h hj

structure CopiedS (w w' : World) (ss : List Src) (g : Nat) : Prop where
  o0 : OwnV w' w.heap.size (some ⟨g, 0, none⟩) (svals ss)
  below : Below w.heap.size w w'
  lt : w.heap.size < w'.heap.size

theorem keep0c18_start {u : World} {p0 p1 p2 p3 p4 p5 p6 p7 p8 p9 p10 p11 p12 p13 p14 p15 p16 p17 : Addr} {v0 v1 v2 v3 v4 v5 v6 v7 v8 v9 v10 v11 v12 v13 v14 v15 v16 v17 : Value} (y0 : u.cell? p0 = some v0) (y1 : u.cell? p1 = some v1) (y2 : u.cell? p2 = some v2) (y3 : u.cell? p3 = some v3) (y4 : u.cell? p4 = some v4) (y5 : u.cell? p5 = some v5) (y6 : u.cell? p6 = some v6) (y7 : u.cell? p7 = some v7) (y8 : u.cell? p8 = some v8) (y9 : u.cell? p9 = some v9) (y10 : u.cell? p10 = some v10) (y11 : u.cell? p11 = some v11) (y12 : u.cell? p12 = some v12) (y13 : u.cell? p13 = some v13) (y14 : u.cell? p14 = some v14) (y15 : u.cell? p15 = some v15) (y16 : u.cell? p16 = some v16) (y17 : u.cell? p17 = some v17) : u.drew.cell? p0 = some v0 ∧ u.drew.cell? p1 = some v1 ∧ u.drew.cell? p2 = some v2 ∧ u.drew.cell? p3 = some v3 ∧ u.drew.cell? p4 = some v4 ∧ u.drew.cell? p5 = some v5 ∧ u.drew.cell? p6 = some v6 ∧ u.drew.cell? p7 = some v7 ∧ u.drew.cell? p8 = some v8 ∧ u.drew.cell? p9 = some v9 ∧ u.drew.cell? p10 = some v10 ∧ u.drew.cell? p11 = some v11 ∧ u.drew.cell? p12 = some v12 ∧ u.drew.cell? p13 = some v13 ∧ u.drew.cell? p14 = some v14 ∧ u.drew.cell? p15 = some v15 ∧ u.drew.cell? p16 = some v16 ∧ u.drew.cell? p17 = some v17 ∧ Below u.heap.size u u.drew :=
  ⟨y0, y1, y2, y3, y4, y5, y6, y7, y8, y9, y10, y11, y12, y13, y14, y15, y16, y17, (Below.refl _ _).drew⟩

theorem keep0c18_later {u w' w'' : World} {p0 p1 p2 p3 p4 p5 p6 p7 p8 p9 p10 p11 p12 p13 p14 p15 p16 p17 : Addr} {v0 v1 v2 v3 v4 v5 v6 v7 v8 v9 v10 v11 v12 v13 v14 v15 v16 v17 : Value} (y0 : u.cell? p0 = some v0) (y1 : u.cell? p1 = some v1) (y2 : u.cell? p2 = some v2) (y3 : u.cell? p3 = some v3) (y4 : u.cell? p4 = some v4) (y5 : u.cell? p5 = some v5) (y6 : u.cell? p6 = some v6) (y7 : u.cell? p7 = some v7) (y8 : u.cell? p8 = some v8) (y9 : u.cell? p9 = some v9) (y10 : u.cell? p10 = some v10) (y11 : u.cell? p11 = some v11) (y12 : u.cell? p12 = some v12) (y13 : u.cell? p13 = some v13) (y14 : u.cell? p14 = some v14) (y15 : u.cell? p15 = some v15) (y16 : u.cell? p16 = some v16) (y17 : u.cell? p17 = some v17) (h : w'.cell? p0 = some v0 ∧ w'.cell? p1 = some v1 ∧ w'.cell? p2 = some v2 ∧ w'.cell? p3 = some v3 ∧ w'.cell? p4 = some v4 ∧ w'.cell? p5 = some v5 ∧ w'.cell? p6 = some v6 ∧ w'.cell? p7 = some v7 ∧ w'.cell? p8 = some v8 ∧ w'.cell? p9 = some v9 ∧ w'.cell? p10 = some v10 ∧ w'.cell? p11 = some v11 ∧ w'.cell? p12 = some v12 ∧ w'.cell? p13 = some v13 ∧ w'.cell? p14 = some v14 ∧ w'.cell? p15 = some v15 ∧ w'.cell? p16 = some v16 ∧ w'.cell? p17 = some v17 ∧ Below u.heap.size u w') (b : Below w'.heap.size w' w'') : w''.cell? p0 = some v0 ∧ w''.cell? p1 = some v1 ∧ w''.cell? p2 = some v2 ∧ w''.cell? p3 = some v3 ∧ w''.cell? p4 = some v4 ∧ w''.cell? p5 = some v5 ∧ w''.cell? p6 = some v6 ∧ w''.cell? p7 = some v7 ∧ w''.cell? p8 = some v8 ∧ w''.cell? p9 = some v9 ∧ w''.cell? p10 = some v10 ∧ w''.cell? p11 = some v11 ∧ w''.cell? p12 = some v12 ∧ w''.cell? p13 = some v13 ∧ w''.cell? p14 = some v14 ∧ w''.cell? p15 = some v15 ∧ w''.cell? p16 = some v16 ∧ w''.cell? p17 = some v17 ∧ Below u.heap.size u w'' := by
  have B := h.2.2.2.2.2.2.2.2.2.2.2.2.2.2.2.2.2.2.trans (b.mono h.2.2.2.2.2.2.2.2.2.2.2.2.2.2.2.2.2.2.size)
  exact ⟨(cell_on y0 B), (cell_on y1 B), (cell_on y2 B), (cell_on y3 B), (cell_on y4 B), (cell_on y5 B), (cell_on y6 B), (cell_on y7 B), (cell_on y8 B), (cell_on y9 B), (cell_on y10 B), (cell_on y11 B), (cell_on y12 B), (cell_on y13 B), (cell_on y14 B), (cell_on y15 B), (cell_on y16 B), (cell_on y17 B), B⟩

end Go.Proofs.Ytkcododhfliobab

end

section

namespace Go.Proofs.Ytkcododhfliobab
open Go Ieee Go.RowKit
set_option linter.unusedVariables false

section
variable {P : Program} {ops : Array Oper} {Q : Exit → Act → World → Prop} {md : Region.Mode} {S : World → Prop}

/-- may all of these be passed over, one after another? (their slots: ds) -/
def skipB (md : Region.Mode) (ops : Array Oper) : List Nat → List Nat → Array Bool → Array Value → Bool
  | [], [], _, _ => true
  | i :: is, d :: ds, listed, t =>
    (match ops[i]? with
     | some o => o.dst == some d && !Region.wanted o (yielded ops t)
     | none => false) && (Region.free md ops listed i && ((Region.ready md ops listed).contains i && skipB md ops is ds (listed.setIfInBounds i true) (t.setIfInBounds d undef)))
  | _, _, _, _ => false

def skipT : List Nat → Array Value → Array Value
  | [], t => t
  | d :: ds, t => skipT ds (t.setIfInBounds d undef)

def skipL : List Nat → Array Bool → Array Bool
  | [], l => l
  | i :: is, l => skipL is (l.setIfInBounds i true)

theorem wpAnyH_skips (hs : Region.noSelect ops = true) (hQ : ∀ c (d : Tmp) (a : Act) w, Q (.panic c) (a.put (some d) undef) w → Q (.panic c) a w) :
    ∀ (is ds : List Nat) (fuel : Nat) (listed : Array Bool) (a : Act) (w : World), skipB md ops is ds listed a.tmps = true → S w →
      wpAnyH P md ops Q S fuel (skipL is listed) { a with tmps := skipT ds a.tmps } w → wpAnyH P md ops Q S (fuel + is.length) listed a w := by
  intro is
  induction is with
  | nil =>
    intro ds fuel listed a w hb hS h
    cases ds with
    | nil => exact h
    | cons d ds => cases hb
  | cons i is ih =>
    intro ds fuel listed a w hb hS h
    cases ds with
    | nil => cases hb
    | cons d ds =>
      unfold skipB at hb
      rw [Bool.and_eq_true, Bool.and_eq_true, Bool.and_eq_true] at hb
      obtain ⟨h1, h2, h3, h4⟩ := hb
      rcases ho : ops[i]? with _ | o
      · rw [ho] at h1; cases h1
      · rw [ho] at h1
        rw [Bool.and_eq_true] at h1
        have hd : o.dst = some d := by simpa using h1.1
        have hw : Region.wanted o (yielded ops a.tmps) = false := by simpa using h1.2
        have e : a.put o.dst undef = { a with tmps := a.tmps.setIfInBounds d undef } := by rw [hd]; rfl
        refine wpAnyH_take (fuel := fuel + is.length) (v := undef) ho hs h2 h3 (fun c a' w' hh => hQ c d a' w' (hd ▸ hh)) (Or.inr ⟨hw, rfl⟩) hS ?_
        rw [e]
        exact ih ds fuel _ _ w h4 hS h

theorem wpAnyH_skips_to {is ds : List Nat} {fuel : Nat} {listed l2 : Array Bool} {a a2 : Act} {w : World} (hs : Region.noSelect ops = true) (hQ : ∀ c (d : Tmp) (a : Act) w, Q (.panic c) (a.put (some d) undef) w → Q (.panic c) a w) (hb : skipB md ops is ds listed a.tmps = true) (hS : S w) (hl : skipL is listed = l2) (ht : { a with tmps := skipT ds a.tmps } = a2) (h : wpAnyH P md ops Q S fuel l2 a2 w) : wpAnyH P md ops Q S (fuel + is.length) listed a w :=
  wpAnyH_skips hs hQ is ds fuel listed a w hb hS (hl ▸ ht ▸ h)
end
end Go.Proofs.Ytkcododhfliobab

end

section

namespace Go.Proofs.Ytkcododhfliobab
open Go Ieee Go.RowKit
set_option linter.unusedVariables false

def srcB (wb : Bool) (wd hi : Int) (s : Src) : Bool := cellB wd hi s.x s.y && (!bordB wb wd hi s.x s.y && waveB s.kd s.wt s.lg s.tu s.sd)
def sourcesB (wb : Bool) (wd hi : Int) (ss : List Src) : Bool := decide (ss.length ≤ 8) && ss.all (srcB wb wd hi)

theorem sources_long {wb : Bool} {wd hi : Int} {ss : List Src} (h : ¬ ss.length ≤ 8) : sourcesB wb wd hi ss = false := by unfold sourcesB; rw [decide_eq_false h]; rfl
theorem sources_all {wb : Bool} {wd hi : Int} {ss : List Src} (h : ss.length ≤ 8) (a : ∀ j (hj : j < ss.length), srcB wb wd hi ss[j] = true) : sourcesB wb wd hi ss = true := by
  unfold sourcesB; rw [decide_eq_true h, all_of (p := srcB wb wd hi) a]; rfl
theorem sources_not {wb : Bool} {wd hi : Int} {ss : List Src} (k : Nat) (hk : k < ss.length) (h : srcB wb wd hi ss[k] = false) : sourcesB wb wd hi ss = false := by
  unfold sourcesB; rw [not_all (p := srcB wb wd hi) k hk h]; simp

theorem quietBorder (g : Nat) (wd hi x y : Int) (wb : Bool) (v3 v4 : Value) (c : Bool) (w : World) (n : Nat) (hc : bordB wb wd hi x y = c) (X : Blk w g #[.int .i64 wd, .int .i64 hi, .bool wb, v3, v4] 32) (s1 : 3 ≤ wd) (s2 : wd ≤ 16) (s3 : 3 ≤ hi) (s4 : hi ≤ 16) :
    Calls Try.prog 105 #[.pointer (some ⟨g, 0, none⟩), .int .i64 x, .int .i64 y] (w.drewN n) fun e w'' => e = .returned (.bool c) ∧ ∃ m, w'' = w.drewN m := by
  subst hc
  exact quietS (specBorder g wd hi x y wb v3 v4 _ (X.drewN _) s1 s2 s3 s4)

end Go.Proofs.Ytkcododhfliobab

end

section

namespace Go.Proofs.Ytkcododhfliobab
open Go Ieee Go.RowKit Go.Deep Go.ChangeShapes Go.WideShapes
set_option linter.unusedVariables false

end Go.Proofs.Ytkcododhfliobab

end
