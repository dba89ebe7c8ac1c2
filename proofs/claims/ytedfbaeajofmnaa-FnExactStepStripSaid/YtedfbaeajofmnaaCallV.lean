/- Calls of a function value, by its contract, where the function is a variable. Conditions: those of each theorem. -/
import Derived.Test.YtedfbaeajofmnaaBu17
namespace Go.Proofs.Ytedfbaeajofmnaa
open Go Go.RowKit

/-- a Go function with a body -/
def IsGo (f : FuncId) : Prop := ∃ fn, Try.prog.funcs[f]? = some fn ∧ (fn.name == "runtime.NumGoroutine") = false ∧ fn.body.isNone = false

section
variable {ops : Array Oper} {a : Act} {w : World} {Q : Exit → Act → World → Prop} {rest : List Oper}

theorem run_callV {r : Operand → Value} {o : Oper} {f : FuncId} {x : Operand} {xs : Array Operand} {ats : Array TypeId} {first caps : Array Value} (ho : o.op = .call { callee := .value x, args := xs, argTypes := ats }) (hx : r x = .func (.func f) first caps) (hf : IsGo f) :
    (execOp r o).run Try.prog w = .ok (.enter f (first ++ xs.map r ++ caps)) w := by
  obtain ⟨fn, h1, h2, h3⟩ := hf
  unfold execOp
  have n1 : fn.name ≠ "runtime.NumGoroutine" := by simpa using h2
  have n2 : fn.body ≠ none := fun e => by rw [e] at h3; cases h3
  simp [ho, resolve, hx, Deferred.ofValue, invoke, callFunc, h1, n1, n2]

/-- AN ARM: a call of a function value -/
theorem wpList_callV {dst : Option Tmp} {ty : TypeId} {pos : String} {after : Array Edge} {x : Operand} {xs : Array Operand} {ats : Array TypeId} (f : FuncId) (first caps : Array Value) (hx : a.eval x = .func (.func f) first caps) (hf : IsGo f) (al : List Value) (ha : xs.toList.map a.eval = al)
    (R : Ending → World → Prop) (hc : Calls Try.prog f (first ++ al.toArray ++ caps) w R)
    (h : ∀ e w', R e w' → ∃ v, e = .returned v ∧ wpList Try.prog ops Q rest (a.put dst v) w') :
    wpList Try.prog ops Q ({ dst := dst, op := .call { callee := .value x, args := xs, argTypes := ats }, type := ty, pos := pos, after := after, guard := none } :: rest) a w := by
  refine wpList_plain rfl fun K hK => ?_
  unfold Oper.wp
  have ha' : xs.map a.eval = al.toArray := by rw [← ha, ← Array.toList_map]
  rw [run_callV rfl hx hf, Oper.upon_enter, ha']
  refine hc.mono fun e w'' hh => ?_
  obtain ⟨v, rfl, hv⟩ := h _ _ hh
  exact hK _ _ hv
end

section
variable {ops : Array Oper} {C : World → Prop} {Sp : FuncId → Array Value → Value → Prop} {Q : Act → Prop} {a : Act} {rest : List Oper}

/-- a call of a function value in a region whose order is open -/
theorem wpRel_callV {dst : Option Tmp} {ty : TypeId} {pos : String} {after : Array Edge} {guard : Option (Nat × Bool)} {x : Operand} {xs : Array Operand} {ats : Array TypeId}
    (hw : Region.wanted { dst := dst, op := .call { callee := .value x, args := xs, argTypes := ats }, type := ty, pos := pos, after := after, guard := guard } (yielded ops a.tmps) = true) (f : FuncId) (first caps : Array Value) (hx : a.eval x = .func (.func f) first caps)
    (hf : IsGo f) (al : List Value) (ha : xs.toList.map a.eval = al)
    (V : Value → Prop) (hc : ∀ w, C w → Calls Try.prog f (first ++ al.toArray ++ caps) w fun e w'' => ∃ v, e = .returned v ∧ V v ∧ C w'')
    (hs : ∀ v, V v ↔ Sp f (first ++ al.toArray ++ caps) v)
    (h : ∀ v, V v → wpRel Try.prog ops C Sp Q rest (a.put dst v)) :
    wpRel Try.prog ops C Sp Q ({ dst := dst, op := .call { callee := .value x, args := xs, argTypes := ats }, type := ty, pos := pos, after := after, guard := guard } :: rest) a := by
  have ha' : xs.map a.eval = al.toArray := by rw [← ha, ← Array.toList_map]
  refine wpRel_want hw ⟨fun w hw => ?_, fun u hu => ?_⟩
  · rw [run_callV rfl hx hf, ha']
    exact (hc w hw).mono fun e w'' ⟨v, h1, h2, h3⟩ => ⟨v, h1, (hs v).1 h2, h3⟩
  · obtain ⟨w, hw, hm⟩ := hu
    rw [run_callV rfl hx hf, ha'] at hm
    exact h u ((hs u).2 hm)
end
end Go.Proofs.Ytedfbaeajofmnaa
