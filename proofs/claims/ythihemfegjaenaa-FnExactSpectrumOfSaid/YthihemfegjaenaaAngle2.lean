/- The angle of a point: its bound, and the walk of the program's function. Conditions: none beyond those of each theorem. -/
import Derived.Test.YthihemfegjaenaaAngle
namespace Go.Proofs.Ythihemfegjaenaa
open Go Ieee Go.RowKit

section
variable {P : Program} {ops : Array Oper} {Q : Exit → Act → World → Prop} {a : Act} {w : World} {rest : List Oper} {o : Oper}
/-- AN ARM: float arithmetic behind a guard that lets it by. -/
theorem wpList_arith_w (hw : Region.wanted o (yielded ops a.tmps) = true) (op : BinOp) (t t2 : TypeId) (x y : Operand) (ho : o.op = .binOp op t x y t2) (hop : isArith op = true) (k : FloatKind) (p q : Nat) (hx : a.eval x = .float k p) (hy : a.eval y = .float k q)
    (h : ∀ v n, canon k v = fop op k (canon k p) (canon k q) → v < 2 ^ k.format.width → wpList P ops Q rest (a.put o.dst (.float k v)) (w.drewN n)) : wpList P ops Q (o :: rest) a w :=
  wpList_step fun K hK => by
    rw [if_pos hw]
    exact wp_arith op hop t t2 x y ho k p q hx hy fun v n h1 h2 => hK _ _ (h v n h1 h2)
end

/-! ### Exact runs -/

theorem run_conv_exact {P : Program} (w : World) {src dst : FloatKind} (hne : src ≠ dst) {b r : Nat} (hr : floatToFloatBits src b dst = some r) : (Conv.floatToFloat src b dst).run P w = .ok (.float dst r) w := by
  unfold floatToFloatBits at hr
  rw [if_neg hne] at hr
  split at hr
  · cases hr
  · rename_i s e; cases hr
    simp [Conv.floatToFloat, hne, e]
  · rename_i s m e he
    split at hr
    · cases hr
    · rename_i ho; cases hr
      simp [Conv.floatToFloat, hne, he, ho]

/-- the 64-bit number that a finite 32-bit one becomes -/
def wid (b : Nat) : Nat := (fconv .f32 .f64 (canon .f32 b)).getD 0

theorem wid_facts {b : Nat} (hb : b < 2 ^ 32) (hf : finB .f32 b = true) :
    canon .f64 (wid b) = fconv .f32 .f64 (canon .f32 b) ∧ isN .f32 b = false ∧ isFin .f64 (wid b) ∧ wid b < 2 ^ 64 ∧ floatToFloatBits .f32 b .f64 = some (wid b) := by
  have h1 : rung Ieee.single b < Ieee.single.infRung := of_decide_eq_true hf
  have hn : isN .f32 b = false := isN_fin (k := .f32) h1
  have hs : (floatToFloatBits .f32 b .f64).isSome = true := by
    rcases fits_widen b with h | h | h
    · cases h
    · have : isN .f32 b = true := h
      rw [hn] at this; cases this
    · exact h
  obtain ⟨r, hr⟩ := Option.isSome_iff_exists.1 hs
  have hc : fconv .f32 .f64 (canon .f32 b) = some r := by rw [canon_fin (k := .f32) h1]; exact hr
  have hw : wid b = r := by unfold wid; rw [hc]; rfl
  have hcr : canon .f64 r = some r := canon_of_not (floatToFloatBits_notNaN hn hr)
  rw [hw, hcr, hc]
  refine ⟨rfl, hn, ?_, ?_, hr⟩
  · have h2 : canon .f64 r = fconv .f32 .f64 (canon .f32 b) := by rw [hcr, hc]
    exact (widen_facts h2 hn).2.2.1.2 h1
  · exact wf_lt (floatToFloatBits_wf (wf_of_lt .f32 b hb) hr)

theorem run_widen {b : Nat} (hb : b < 2 ^ 32) (hf : finB .f32 b = true) (w : World) : (convert 36 114 (.float .f32 b)).run Try.prog w = .ok (.float .f64 (wid b)) w := by
  obtain ⟨_, hn, _, _, hr⟩ := wid_facts hb hf
  have e := run_conv_exact (P := Try.prog) w (src := .f32) (dst := .f64) (by decide) hr
  simp [convert, run_underlying Try.underlying36, run_underlying Try.underlying114, e]

theorem run_sub_self {v : Nat} (h : isFin .f64 v) (w : World) : (binOp .sub 114 (.float .f64 v) (.float .f64 v)).run Try.prog w = .ok (.float .f64 0) w := by
  have hb : floatBits .sub .f64 v v = some 0 := by
    rw [floatBits_canon, canon_fin h, sub_eq h h, Int.sub_self, if_pos rfl]
    cases sgn FloatKind.f64.format v <;> rfl
  have := run_floatArith (P := Try.prog) w hb
  simpa [binOp] using this

theorem fin_of_B {k : FloatKind} {b : Nat} (h : finB k b = true) : isFin k b := by
  exact of_decide_eq_true (p := rung k.format b < k.format.infRung) h

theorem zero_eq (k : FloatKind) {b : Nat} (h : isFin k b) : (k.format.order b 0 == some .eq) = decide (rung k.format b = 0) := by
  have k0 : key k.format 0 = 0 := by cases k <;> decide
  have n0 : isN k 0 = false := by cases k <;> decide
  rw [order_key k (isN_fin h) n0, Bool.eq_iff_iff, k0]
  simp only [beq_iff_eq, Option.some.injEq, decide_eq_true_eq, Int.compare_eq_eq]
  exact key_zero_iff _ _

def negB (k : FloatKind) (b : Nat) : Bool := decide (key k.format b < 0)
theorem zero_lt (k : FloatKind) {b : Nat} (h : isFin k b) : (k.format.order b 0 == some .lt) = negB k b := by
  have k0 : key k.format 0 = 0 := by cases k <;> decide
  have n0 : isN k 0 = false := by cases k <;> decide
  rw [order_key k (isN_fin h) n0, Bool.eq_iff_iff, k0]
  simp only [beq_iff_eq, Option.some.injEq, decide_eq_true_eq, Int.compare_eq_lt, negB]

theorem wid_zero {b : Nat} (hb : b < 2 ^ 32) (hf : finB .f32 b = true) : (rung Ieee.double (wid b) = 0 ↔ rung Ieee.single b = 0) := by
  obtain ⟨h1, hn, _⟩ := wid_facts hb hf
  exact (widen_facts h1 hn).2.2.2

theorem wid_neg {b : Nat} (hb : b < 2 ^ 32) (hf : finB .f32 b = true) : negB .f64 (wid b) = negB .f32 b := by
  obtain ⟨h1, hn, _⟩ := wid_facts hb hf
  obtain ⟨_, h2, _, h3⟩ := widen_facts h1 hn
  unfold negB
  rw [decide_eq_decide]
  show key Ieee.double (wid b) < 0 ↔ key Ieee.single b < 0
  unfold key
  rw [h2]
  cases sgn Ieee.single b <;> simp <;> omega

/-! ### The angle -/

def signed3 (nx ny : Bool) (q : Option Nat) : Option Nat :=
  match nx, ny with
  | false, false => q
  | true, false => fop .sub .f64 (some cHalf) q
  | false, true => q.map (Op.negFloat .f64)
  | true, true => (fop .sub .f64 (some cHalf) q).map (Op.negFloat .f64)

/-- the angle of a point with finite parts that are not both zeros -/
def angleC (Y X : Nat) : Option Nat := signed3 (negB .f64 X) (negB .f64 Y) (quarterO (rung Ieee.double Y) (rung Ieee.double X))

theorem bd_signed {nx ny : Bool} {q : Option Nat} (h : Bd 1142 q) : Bd 1143 (signed3 nx ny q) := by
  have hh : Bd 1142 (some cHalf) := fun v hv => by cases hv; decide
  have h2 := Bd.sub hh h (by omega) (by omega)
  cases nx <;> cases ny
  · exact h.mono (by omega)
  · exact Bd.neg (h.mono (by omega))
  · exact h2
  · exact h2.neg

theorem bd_angle {y x : Nat} (hy : y < 2 ^ 32) (hx : x < 2 ^ 32) (fy : finB .f32 y = true) (fx : finB .f32 x = true) (h0 : ¬ (rung Ieee.single y = 0 ∧ rung Ieee.single x = 0)) : Bd 1149 (angleC (wid y) (wid x)) := by
  obtain ⟨y1, yn, yf, _⟩ := wid_facts hy fy
  obtain ⟨x1, xn, xf, _⟩ := wid_facts hx fx
  have yz := wid_zero hy fy
  have xz := wid_zero hx fx
  have yf' : rung Ieee.double (wid y) < Ieee.double.infRung := yf
  have xf' : rung Ieee.double (wid x) < Ieee.double.infRung := xf
  have yb : rung Ieee.double (wid y) < 2046 * 2 ^ 52 := by rcases widen_bound y1 with h | h <;> omega
  have xb : rung Ieee.double (wid x) < 2046 * 2 ^ 52 := by rcases widen_bound x1 with h | h <;> omega
  have yl := fun h => widen_normal y1 yn h
  have xl := fun h => widen_normal x1 xn h
  refine (bd_signed ?_).mono (by omega)
  have ra : rung Ieee.double (rung Ieee.double (wid y)) = rung Ieee.double (wid y) := rung_rung _ _
  have rb : rung Ieee.double (rung Ieee.double (wid x)) = rung Ieee.double (wid x) := rung_rung _ _
  have fa : isFin .f64 (rung Ieee.double (wid y)) := by show rung Ieee.double (rung Ieee.double (wid y)) < _; rw [ra]; exact yf'
  have fb : isFin .f64 (rung Ieee.double (wid x)) := by show rung Ieee.double (rung Ieee.double (wid x)) < _; rw [rb]; exact xf'
  have hg := gtO_key fa fb
  rw [key_rung, key_rung] at hg
  unfold quarterO
  rw [hg]
  by_cases hgt : (rung Ieee.double (wid x) : Int) < rung Ieee.double (wid y)
  · rw [decide_eq_true hgt, if_pos rfl]
    have hq : Bd 1141 (some cQuarter) := fun v hv => by cases hv; decide
    exact Bd.sub hq (bd_eighth (quo_small (by rw [ra]; exact yb) (by rw [ra]; exact yl (by omega)) (by rw [ra, rb]; omega))) (by omega) (by omega)
  · rw [decide_eq_false hgt]
    refine Bd.mono (bd_eighth (quo_small (by rw [rb]; exact xb) (by rw [rb]; exact xl (fun h => h0 ⟨yz.1 (by omega), xz.1 h⟩)) (by rw [ra, rb]; omega))) (by omega)

/-! ### The program's angle -/

/-- the angle of a point, in 32 bits -/
def angleN (y x : Nat) : Option Nat :=
  if finB .f32 y = true ∧ finB .f32 x = true then (if rung Ieee.single y = 0 ∧ rung Ieee.single x = 0 then some 0 else fconv .f64 .f32 (angleC (wid y) (wid x))) else none

end Go.Proofs.Ythihemfegjaenaa
