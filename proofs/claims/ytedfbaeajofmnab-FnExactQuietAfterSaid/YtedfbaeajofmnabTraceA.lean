/- Traces over the fields behind steps: the closure that is ranged over, and what a round of a trace does. Conditions: those of each theorem. -/
import Derived.Test.YtedfbaeajofmnabIter
import Derived.Deep.DeepAppendRoom
namespace Go.Proofs.Ytedfbaeajofmnab
open Go Ieee Go.RowKit
set_option linter.unusedVariables false

section
variable {P : Program} {ops : Array Oper} {C : World → Prop} {Sp : FuncId → Array Value → Value → Prop} {Q : Act → Prop} {a : Act} {rest : List Oper}

theorem run_call_env {o : Oper} {f : FuncId} {fn : Func} {w : World} {r : Operand → Value} {x : Operand} {xs : Array Operand} {ats : Array TypeId} {lb : Array Value} (ho : o.op = .call { callee := .value x, args := xs, argTypes := ats }) (hx : r x = .func (.func f) #[] lb)
    (hf : P.funcs[f]? = some fn) (hn : (fn.name == "runtime.NumGoroutine") = false) (hb : fn.body.isNone = false) : (execOp r o).run P w = .ok (.enter f (xs.map r ++ lb)) w := by
  unfold execOp
  have h1 : fn.name ≠ "runtime.NumGoroutine" := by simpa using hn
  have h2 : fn.body ≠ none := fun e => by rw [e] at hb; cases hb
  simp [ho, resolve, hx, Deferred.ofValue, invoke, callFunc, hf, h1, h2]

/-- a call of a closure -/
theorem wpRel_callE {dst : Option Tmp} {ty : TypeId} {pos : String} {after : Array Edge} {guard : Option (Nat × Bool)} {x : Operand} {xs : Array Operand} {ats : Array TypeId}
    (hw : Region.wanted { dst := dst, op := .call { callee := .value x, args := xs, argTypes := ats }, type := ty, pos := pos, after := after, guard := guard } (yielded ops a.tmps) = true) (f : FuncId) (fn : Func) (lb : Array Value) (hx : a.eval x = .func (.func f) #[] lb)
    (hf : P.funcs[f]? = some fn) (hn : (fn.name == "runtime.NumGoroutine") = false) (hb : fn.body.isNone = false) (al : List Value) (ha : xs.toList.map a.eval = al)
    (hc : ∀ w, C w → Calls P f (al.toArray ++ lb) w fun e w'' => ∃ v, e = .returned v ∧ Sp f (al.toArray ++ lb) v ∧ C w'')
    (h : ∀ v, Sp f (al.toArray ++ lb) v → wpRel P ops C Sp Q rest (a.put dst v)) :
    wpRel P ops C Sp Q ({ dst := dst, op := .call { callee := .value x, args := xs, argTypes := ats }, type := ty, pos := pos, after := after, guard := guard } :: rest) a := by
  have ha' : xs.map a.eval = al.toArray := by rw [← ha, ← Array.toList_map]
  rw [← ha'] at hc h
  refine wpRel_want hw ⟨fun w hw => ?_, fun u hu => ?_⟩
  · rw [run_call_env rfl hx hf hn hb]
    exact hc w hw
  · obtain ⟨w, hw, hm⟩ := hu
    rw [run_call_env rfl hx hf hn hb] at hm
    exact h u hm
end

set_option maxHeartbeats 8000000 in
set_option maxRecDepth 100000 in
theorem implFieldsBehind (m k N ba oa ca bb ob cb b0 b1 b2 o0 o1 o2 : Nat) (wb : Bool) (xs ys e x y : List Nat) (w : World) : Calls Try.prog 62 #[.agg #[.int .i64 (m : Int), .int .i64 (k : Int), .bool wb, .slice (some ⟨ba, oa, none⟩) xs.length ca, .slice (some ⟨bb, ob, none⟩) ys.length cb], .agg #[.slice (some ⟨b0, o0, none⟩) e.length e.length, .slice (some ⟨b1, o1, none⟩) x.length x.length, .slice (some ⟨b2, o2, none⟩) y.length y.length], .int .i64 (N : Int)] w fun r w' => ∃ s f nb, r = .returned (.func (.func 89) #[] #[.pointer (some ⟨s, 0, none⟩), .pointer (some ⟨f, 0, none⟩), .pointer (some ⟨nb, 0, none⟩)]) ∧ Blk w' s #[.int .i64 (m : Int), .int .i64 (k : Int), .bool wb, .slice (some ⟨ba, oa, none⟩) xs.length ca, .slice (some ⟨bb, ob, none⟩) ys.length cb] 32 ∧ Blk w' f #[.slice (some ⟨b0, o0, none⟩) e.length e.length, .slice (some ⟨b1, o1, none⟩) x.length x.length, .slice (some ⟨b2, o2, none⟩) y.length y.length] 29 ∧ Blk w' nb #[.int .i64 (N : Int)] 2 ∧ w.heap.size ≤ s ∧ w.heap.size ≤ nb ∧ Below w.heap.size w w' := by
  have X := Blk.new w #[.int .i64 (m : Int), .int .i64 (k : Int), .bool wb, .slice (some ⟨ba, oa, none⟩) xs.length ca, .slice (some ⟨bb, ob, none⟩) ys.length cb] 32
  have Y := Blk.new1 w (.cells #[.int .i64 (m : Int), .int .i64 (k : Int), .bool wb, .slice (some ⟨ba, oa, none⟩) xs.length ca, .slice (some ⟨bb, ob, none⟩) ys.length cb] 32) #[.slice (some ⟨b0, o0, none⟩) e.length e.length, .slice (some ⟨b1, o1, none⟩) x.length x.length, .slice (some ⟨b2, o2, none⟩) y.length y.length] 29
  replace X := X.alloc (.cells #[.slice (some ⟨b0, o0, none⟩) e.length e.length, .slice (some ⟨b1, o1, none⟩) x.length x.length, .slice (some ⟨b2, o2, none⟩) y.length y.length] 29)
  have Nb := Blk.new2 w (.cells #[.int .i64 (m : Int), .int .i64 (k : Int), .bool wb, .slice (some ⟨ba, oa, none⟩) xs.length ca, .slice (some ⟨bb, ob, none⟩) ys.length cb] 32) (.cells #[.slice (some ⟨b0, o0, none⟩) e.length e.length, .slice (some ⟨b1, o1, none⟩) x.length x.length, .slice (some ⟨b2, o2, none⟩) y.length y.length] 29) #[.int .i64 (N : Int)] 2
  replace X := X.alloc (.cells #[.int .i64 (N : Int)] 2)
  replace Y := Y.alloc (.cells #[.int .i64 (N : Int)] 2)
  have HB : Hid (Below w.heap.size w (((w.alloc (.cells #[.int .i64 (m : Int), .int .i64 (k : Int), .bool wb, .slice (some ⟨ba, oa, none⟩) xs.length ca, .slice (some ⟨bb, ob, none⟩) ys.length cb] 32)).alloc (.cells #[.slice (some ⟨b0, o0, none⟩) e.length e.length, .slice (some ⟨b1, o1, none⟩) x.length x.length, .slice (some ⟨b2, o2, none⟩) y.length y.length] 29)).alloc (.cells #[.int .i64 (N : Int)] 2))) := Lib.hid ((((Below.refl w.heap.size w).alloc (by simp <;> omega) _).alloc (by simp <;> omega) _).alloc (by simp <;> omega) _)
  go_enter Try.func62, Try.ntmps62
  go_wp2_with fail
  generalize (((w.alloc (.cells #[.int .i64 (m : Int), .int .i64 (k : Int), .bool wb, .slice (some ⟨ba, oa, none⟩) xs.length ca, .slice (some ⟨bb, ob, none⟩) ys.length cb] 32)).alloc (.cells #[.slice (some ⟨b0, o0, none⟩) e.length e.length, .slice (some ⟨b1, o1, none⟩) x.length x.length, .slice (some ⟨b2, o2, none⟩) y.length y.length] 29)).alloc (.cells #[.int .i64 (N : Int)] 2)) = u1 at *
  go_wp2
  go_ret
  exact ⟨_, _, _, rfl, X, Y, Nb, by omega, by omega, HB.out⟩

end Go.Proofs.Ytedfbaeajofmnab
