/- Regions whose order is open, walked by a plan: an operation that only reads is taken wherever the plan says, one that makes memory where it is the only one that is ready. Conditions: those of wp_region_plan. -/
import Derived.Test.YtedfbaeajofmnaaHeldG
import Derived.Test.YtedfbaeajofmnaaCallV
import Derived.Deep.RegionHeld3
namespace Go.Proofs.Ytedfbaeajofmnaa
open Go Go.RowKit
set_option linter.unusedVariables false

section
variable {P : Program} {ops : Array Oper} {md : Region.Mode} {Q : Exit → Act → World → Prop} {S : World → Prop}

/-- a plan fits a region: what is taken is ready and free, what is carried out is the only one that is ready, and the last part comes in one order -/
def planB (md : Region.Mode) (ops : Array Oper) (n : Nat) : List (Nat × Bool) → Array Bool → Bool
  | [], listed => Region.seqB md ops (ops.size - n) n listed
  | (i, true) :: r, listed => decide (i < n) && ((Region.ready md ops listed).contains i && (Region.free md ops listed i && planB md ops n r (listed.setIfInBounds i true)))
  | (i, false) :: r, listed => decide (i < n) && (decide (Region.ready md ops listed = [i]) && planB md ops n r (listed.setIfInBounds i true))

def planWalk (P : Program) (ops : Array Oper) (S : World → Prop) (Q : Exit → Act → World → Prop) (K : Act → World → Prop) : List (Nat × Bool) → Act → World → Prop
  | [], a, w => K a w
  | (i, true) :: r, a, w => ∃ o v, ops[i]? = some o ∧ YieldsIf P ops S o v a ∧ planWalk P ops S Q K r (a.put o.dst v) w
  | (i, false) :: r, a, w => ∃ o, ops[i]? = some o ∧ wpList P ops (heldPost S Q (planWalk P ops S Q K r)) [o] a w

theorem wpAnyG_plan {n : Nat} {l : List Oper} (hl : ops = l.toArray) (hsel : Region.noSelect ops = true) (hs : Region.sinkB md ops n = true) (hc : Region.chainB md ops n = true) (hn : n < ops.size)
    (hQ : ∀ c a d v w, Q (.panic c) (Act.put a d v) w → Q (.panic c) a w) : ∀ (plan : List (Nat × Bool)) (listed : Array Bool) (a : Act) (w : World), HeadInv md ops n listed → planB md ops n plan listed = true → S w →
    planWalk P ops S Q (fun a w => wpList P ops Q (l.drop n) a w) plan a w → wpAnyG P md ops Q S n (ops.size - n) plan.length listed a w
  | [], listed, a, w, inv, hB, hS, h => by
    have hB' : Region.seqB md ops (ops.size - n) n listed = true := hB
    refine ⟨fun j hj => seqB_ready hB' j hj, ?_⟩
    have td : (l.drop n).length = ops.size - n := by rw [hl]; simp
    have := wpAny_of_seq (md := md) (ops := ops) (Q' := Q) (l.drop n) n listed a w (fun j => by rw [hl]; simp [List.getElem?_drop]) (by rw [td]; exact hB') h
    rwa [td] at this
  | (i, true) :: r, listed, a, w, inv, hB, hS, h => by
    simp only [planB, Bool.and_eq_true, decide_eq_true_eq] at hB
    obtain ⟨hin, hr, hf, hB'⟩ := hB
    have hr' : i ∈ Region.ready md ops listed := by simpa using hr
    obtain ⟨o, v, h0, hy, h'⟩ := h
    exact wpAnyG_first h0 (Region.noSelect_spec hsel) hs hc hn hin (fun c a w => hQ c a _ _ w) r.length listed a w inv (Region.free_spec h0 hf) hr' hy hS (wpAnyG_plan hl hsel hs hc hn hQ r _ _ w (inv.set hr' hin) hB' hS h')
  | (i, false) :: r, listed, a, w, inv, hB, hS, h => by
    simp only [planB, Bool.and_eq_true, decide_eq_true_eq] at hB
    obtain ⟨hin, hr, hB'⟩ := hB
    have hr' : i ∈ Region.ready md ops listed := by rw [hr]; simp
    obtain ⟨o, h0, h'⟩ := h
    refine ⟨fun h1 => (by rw [hr] at h1; cases h1), fun i' hi' => ?_⟩
    rw [hr] at hi'
    obtain rfl : i' = i := by simpa using hi'
    refine ⟨hin, ?_⟩
    exact wpOp_mono (fun a' w' h2 => ⟨h2.1, wpAnyG_plan hl hsel hs hc hn hQ r _ a' w' (inv.set hr' hin) hB' h2.1 h2.2⟩) (wpOp_held h0 h')

def planFits (md : Region.Mode) (ops : Array Oper) (n : Nat) (plan : List (Nat × Bool)) : Bool :=
  Region.noSelect ops && (decide (n < ops.size) && (decide (plan.length = n) && (Region.sinkB md ops n && (Region.chainB md ops n && planB md ops n plan (Array.replicate ops.size false)))))

/-- A REGION BY A PLAN -/
theorem wp_region_plan {id : Nat} {a : Act} {w : World} {l : List Oper} (S : World → Prop) (n : Nat) (plan : List (Nat × Bool)) (hm : P.follows .mixedOrders = true) (hB : planFits .any l.toArray n plan = true) (hQ : ∀ c a d v w, Q (.panic c) (Act.put a d v) w → Q (.panic c) a w) (hS : S w.drew)
    (h : planWalk P l.toArray S Q (fun a w => wpList P l.toArray Q (l.drop n) a w) plan a w.drew) : (Code.region id l.toArray true).wp P Q a w := by
  simp only [planFits, Bool.and_eq_true, decide_eq_true_eq] at hB
  obtain ⟨hsel, hn, hpl, hs, hc, hB⟩ := hB
  refine wp_region_any hm ?_
  have inv0 : HeadInv .any l.toArray n (Array.replicate l.toArray.size false) :=
    ⟨by simp, fun j oj _ hl => (by rw [getD_replicate_false] at hl; cases hl), fun t _ ht => getD_in (by simpa using ht) (getD_replicate_false _ _)⟩
  have H := wpAny_of_G _ _ _ _ (wpAnyG_plan (md := .any) rfl hsel hs hc hn hQ plan _ a w.drew inv0 hB hS h)
  rw [hpl, show n + (l.toArray.size - n) = l.toArray.size by omega] at H
  exact H

variable {K : Act → World → Prop} {i : Nat} {r : List (Nat × Bool)} {a : Act} {w : World} {dst : Option Tmp} {ty : TypeId} {pos : String} {after : Array Edge} {guard : Option (Nat × Bool)}

theorem plan_load {t : TypeId} {x : Operand} (h0 : ops[i]? = some { dst := dst, op := .load t x, type := ty, pos := pos, after := after, guard := guard }) (hw : Region.wanted { dst := dst, op := .load t x, type := ty, pos := pos, after := after, guard := guard } (yielded ops a.tmps) = true) (p : Addr) (hx : a.eval x = .pointer (some p)) (v : Value)
    (hl : ∀ w', S w' → (loadVar t p).run P w' = .ok v w') (h : planWalk P ops S Q K r (a.put dst v) w) : planWalk P ops S Q K ((i, true) :: r) a w :=
  ⟨_, v, h0, .inl ⟨hw, fun w' hw' => by
    unfold execOp
    simp only [hx, Instr.loadAt, Instr.sureAddr, Sem.run_bind, Sem.run_pure, Result.andThen_ok, hl w' hw']⟩, h⟩

theorem plan_plain {o : Oper} (h0 : ops[i]? = some o) (hw : Region.wanted o (yielded ops a.tmps) = true) (v : Value) (hr : ∀ w', (execOp a.eval o).run P w' = .ok (.value v) w') (h : planWalk P ops S Q K r (a.put o.dst v) w) : planWalk P ops S Q K ((i, true) :: r) a w :=
  ⟨o, v, h0, .inl ⟨hw, fun w' _ => hr w'⟩, h⟩

theorem plan_build {t : TypeId} {parts : Array (Nat × Operand)} (h0 : ops[i]? = some { dst := dst, op := .build t parts, type := ty, pos := pos, after := after, guard := guard }) (hw : Region.wanted { dst := dst, op := .build t parts, type := ty, pos := pos, after := after, guard := guard } (yielded ops a.tmps) = true) (cells : Array Value) (hb : P.built t (parts.map fun (i, x) => (i, a.eval x)).toList = some cells)
    (h : planWalk P ops S Q K r (a.put dst (.agg cells)) w) : planWalk P ops S Q K ((i, true) :: r) a w :=
  plan_plain h0 hw (.agg cells) (fun w => by
    unfold execOp
    simp only [Sem.run_bind, run_build w t _ cells hb, Result.andThen_ok, Sem.run_pure]) h

theorem plan_skip {o : Oper} (h0 : ops[i]? = some o) (hw : Region.wanted o (yielded ops a.tmps) = false) (h : planWalk P ops S Q K r (a.put o.dst undef) w) : planWalk P ops S Q K ((i, true) :: r) a w :=
  ⟨o, undef, h0, .inr ⟨hw, rfl⟩, h⟩

/-- a call by its contract -/
theorem plan_call {x : Operand} {xs : Array Operand} {ats : Array TypeId} (h0 : ops[i]? = some { dst := dst, op := .call { callee := .value x, args := xs, argTypes := ats }, type := ty, pos := pos, after := after, guard := guard })
    (hw : Region.wanted { dst := dst, op := .call { callee := .value x, args := xs, argTypes := ats }, type := ty, pos := pos, after := after, guard := guard } (yielded ops a.tmps) = true) (f : FuncId) (first caps : Array Value) (hx : a.eval x = .func (.func f) first caps) (fn : Func) (hf : P.funcs[f]? = some fn) (hn : (fn.name == "runtime.NumGoroutine") = false) (hb : fn.body.isNone = false) (al : List Value) (ha : xs.toList.map a.eval = al)
    (args : Array Value) (hargs : first ++ al.toArray ++ caps = args) (R : Ending → World → Prop) (hc : Calls P f args w R) (h : ∀ e w', R e w' → ∃ v, e = .returned v ∧ S w' ∧ planWalk P ops S Q K r (a.put dst v) w') : planWalk P ops S Q K ((i, false) :: r) a w := by
  refine ⟨_, h0, ?_⟩
  unfold wpList
  rw [if_pos hw]
  left
  unfold Oper.wp
  have ha' : xs.map a.eval = al.toArray := by rw [← ha, ← Array.toList_map]
  have h1 : fn.name ≠ "runtime.NumGoroutine" := by simpa using hn
  have h2 : fn.body ≠ none := fun e => by rw [e] at hb; cases hb
  have hr : (execOp a.eval { dst := dst, op := .call { callee := .value x, args := xs, argTypes := ats }, type := ty, pos := pos, after := after, guard := guard }).run P w = .ok (.enter f (first ++ xs.map a.eval ++ caps)) w := by
    unfold execOp
    simp [resolve, hx, Deferred.ofValue, invoke, callFunc, hf, h1, h2]
  rw [hr, ha', hargs]
  simp only [Oper.upon]
  refine hc.mono ?_
  rintro e w'' hR
  obtain ⟨v, rfl, hS', h'⟩ := h e w'' hR
  exact ⟨hS', h'⟩
end
end Go.Proofs.Ytedfbaeajofmnaa
