/- Complex numbers in walks: built, taken apart, converted, narrowed, compared. Conditions: none beyond those of each theorem. -/
import Derived.Test.YthihemfegjaenaaBu1
namespace Go.Proofs.Ythihemfegjaenaa
open Go Ieee Go.RowKit

@[go_sem] theorem complex_run (ats : Array TypeId) (ty : TypeId) (k : FloatKind) (a b : Nat) : Builtin.complex_ ats ty #[.float k a, .float k b] = pure (.complex k a b) := by cases k <;> rfl
@[go_sem] theorem real_run (ats : Array TypeId) (ty : TypeId) (k : FloatKind) (a b : Nat) : Builtin.real_ ats ty #[.complex k a b] = pure (.float k a) := rfl
@[go_sem] theorem imag_run (ats : Array TypeId) (ty : TypeId) (k : FloatKind) (a b : Nat) : Builtin.imag_ ats ty #[.complex k a b] = pure (.float k b) := rfl

/-- a complex number comes back, its parts known up to a NaN's bits -/
def CRet (k : FloatKind) (w : World) (A B : Option Nat) (e : Ending) (w' : World) : Prop := ∃ a b n, e = .returned (.complex k a b) ∧ w' = w.drewN n ∧ canon k a = A ∧ canon k b = B ∧ a < 2 ^ k.format.width ∧ b < 2 ^ k.format.width

theorem implNarrowC (a b : Nat) (w : World) (ha : a < 2 ^ 64) (hb : b < 2 ^ 64) (fa : fits .f64 .f32 a) (fb : fits .f64 .f32 b) : Calls Try.prog 157 #[.complex .f64 a b] w (CRet .f32 w (fconv .f64 .f32 (canon .f64 a)) (fconv .f64 .f32 (canon .f64 b))) := by
  have toka : True := trivial; have tokb : True := trivial
  go_enter Try.func157, Try.ntmps157
  go_wp2_with (first | (go_at_call 144; have _t := toka; refine (implNarrow _ _ ha fa).mono ?_; rintro e w' ⟨x, k, rfl, rfl, hx, hxl⟩; have HX := Lib.hid hx; clear hx _t toka) | (go_at_call 144; have _t := tokb; refine (implNarrow _ _ hb fb).mono ?_; rintro e w' ⟨y, m, rfl, rfl, hy, hyl⟩; have HY := Lib.hid hy; clear hy _t tokb))
  go_ret
  exact ⟨x, y, _, rfl, rfl, HX.out, HY.out, hxl, hyl⟩

theorem sameComplex_any (a b c d : Nat) (w : World) (h1 : canon .f64 a = canon .f64 c) (h2 : canon .f64 b = canon .f64 d) : Calls Try.prog 43 #[.complex .f64 a b, .complex .f64 c d] w fun e w' => e = .returned (.bool true) ∧ ∃ n, w' = w.drewN n := by
  have H1 := Lib.hid h1
  have H2 := Lib.hid h2
  clear h1 h2
  have toka : True := trivial; have tokb : True := trivial
  go_enter Try.func43, Try.ntmps43
  go_wp2_with (first | (go_at_call 96; have _t := toka; refine (sameFloat_any _ _ _ H1.out).mono ?_; rintro e w' ⟨rfl, n, rfl⟩; clear _t toka) | (go_at_call 96; have _t := tokb; refine (sameFloat_any _ _ _ H2.out).mono ?_; rintro e w' ⟨rfl, m, rfl⟩; clear _t tokb))
  go_ret
  exact ⟨rfl, _, rfl⟩

section
variable {P : Program} {ops : Array Oper} {Q : Exit → Act → World → Prop} {a : Act} {w : World} {rest : List Oper} {o : Oper}
theorem run_cconv (w : World) (src dst : FloatKind) (hne : src ≠ dst) (p q : Nat) (hp : p < 2 ^ src.format.width) (hq : q < 2 ^ src.format.width) (fp : fits src dst p) (fq : fits src dst q) :
    ∃ u v n, (Conv.complexToComplex src p q dst).run P w = .ok (.complex dst u v) (w.drewN n) ∧ canon dst u = fconv src dst (canon src p) ∧ canon dst v = fconv src dst (canon src q) ∧ u < 2 ^ dst.format.width ∧ v < 2 ^ dst.format.width := by
  obtain ⟨u, n, h1, h2, h3⟩ := run_conv_any (P := P) w src dst hne p hp fp
  obtain ⟨v, m, g1, g2, g3⟩ := run_conv_any (P := P) (w.drewN n) src dst hne q hq fq
  refine ⟨u, v, n + m, ?_, h2, g2, h3, g3⟩
  unfold Conv.complexToComplex
  simp only [Sem.run_bind, h1, Result.andThen_ok, g1, Sem.run_pure]
  rw [World.drewN_drewN]

/-- AN ARM: a conversion between the two complex kinds. -/
theorem wpList_cconv (hgd : o.guard = none) (t t2 : TypeId) (x : Operand) (ho : o.op = .convert t t2 x) (src dst : FloatKind) (hne : src ≠ dst) (p q : Nat) (hx : a.eval x = .complex src p q) (hs : P.underlying t = some (.complex src)) (hd : P.underlying t2 = some (.complex dst))
    (hp : p < 2 ^ src.format.width) (hq : q < 2 ^ src.format.width) (fp : fits src dst p) (fq : fits src dst q)
    (h : ∀ u v n, canon dst u = fconv src dst (canon src p) → canon dst v = fconv src dst (canon src q) → wpList P ops Q rest (a.put o.dst (.complex dst u v)) (w.drewN n)) : wpList P ops Q (o :: rest) a w :=
  wpList_plain hgd fun K hK => by
    obtain ⟨u, v, n, hr, h1, h2, _, _⟩ := run_cconv (P := P) w src dst hne p q hp hq fp fq
    unfold Oper.wp execOp
    have e : (convert t t2 (.complex src p q)).run P w = .ok (.complex dst u v) (w.drewN n) := by
      simp [convert, run_underlying hs, run_underlying hd, hr]
    simp only [ho, hx, Sem.run_bind, Sem.run_pure, Result.andThen_ok, e]
    exact hK _ _ (h u v n h1 h2)
end
end Go.Proofs.Ythihemfegjaenaa
