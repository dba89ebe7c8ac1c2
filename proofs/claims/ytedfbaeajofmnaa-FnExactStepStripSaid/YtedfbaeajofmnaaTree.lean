/- Regions whose order is open, walked by a tree of plans: where two operations are ready, both ways. Conditions: those of wp_region_tree. -/
import Derived.Test.YtedfbaeajofmnaaPlan
namespace Go.Proofs.Ytedfbaeajofmnaa
open Go Go.RowKit
set_option linter.unusedVariables false

inductive PTree where
  | done
  | take (i : Nat) (t : PTree)
  | one (i : Nat) (t : PTree)
  | fork (i : Nat) (ti : PTree) (j : Nat) (tj : PTree)

section
variable {P : Program} {ops : Array Oper} {md : Region.Mode} {Q : Exit → Act → World → Prop} {S : World → Prop}

def treeB (md : Region.Mode) (ops : Array Oper) (n : Nat) : PTree → Nat → Array Bool → Bool
  | .done, f, listed => decide (f = 0) && Region.seqB md ops (ops.size - n) n listed
  | .take i t, f, listed => decide (0 < f) && (decide (i < n) && ((Region.ready md ops listed).contains i && (Region.free md ops listed i && treeB md ops n t (f - 1) (listed.setIfInBounds i true))))
  | .one i t, f, listed => decide (0 < f) && (decide (i < n) && (decide (Region.ready md ops listed = [i]) && treeB md ops n t (f - 1) (listed.setIfInBounds i true)))
  | .fork i ti j tj, f, listed => decide (0 < f) && (decide (i < n) && (decide (j < n) && (decide (Region.ready md ops listed = [i, j]) && (treeB md ops n ti (f - 1) (listed.setIfInBounds i true) && treeB md ops n tj (f - 1) (listed.setIfInBounds j true)))))

def treeWalk (P : Program) (ops : Array Oper) (S : World → Prop) (Q : Exit → Act → World → Prop) (K : Act → World → Prop) : PTree → Act → World → Prop
  | .done, a, w => K a w
  | .take i t, a, w => ∃ o v, ops[i]? = some o ∧ YieldsIf P ops S o v a ∧ treeWalk P ops S Q K t (a.put o.dst v) w
  | .one i t, a, w => ∃ o, ops[i]? = some o ∧ wpList P ops (heldPost S Q (treeWalk P ops S Q K t)) [o] a w
  | .fork i ti j tj, a, w => (∃ o, ops[i]? = some o ∧ wpList P ops (heldPost S Q (treeWalk P ops S Q K ti)) [o] a w) ∧ (∃ o, ops[j]? = some o ∧ wpList P ops (heldPost S Q (treeWalk P ops S Q K tj)) [o] a w)

theorem wpAnyG_tree {n : Nat} {l : List Oper} (hl : ops = l.toArray) (hsel : Region.noSelect ops = true) (hs : Region.sinkB md ops n = true) (hc : Region.chainB md ops n = true) (hn : n < ops.size)
    (hQ : ∀ c a d v w, Q (.panic c) (Act.put a d v) w → Q (.panic c) a w) : ∀ (t : PTree) (f : Nat) (listed : Array Bool) (a : Act) (w : World), HeadInv md ops n listed → treeB md ops n t f listed = true → S w →
    treeWalk P ops S Q (fun a w => wpList P ops Q (l.drop n) a w) t a w → wpAnyG P md ops Q S n (ops.size - n) f listed a w
  | .done, f, listed, a, w, inv, hB, hS, h => by
    simp only [treeB, Bool.and_eq_true, decide_eq_true_eq] at hB
    obtain ⟨rfl, hB'⟩ := hB
    refine ⟨fun j hj => seqB_ready hB' j hj, ?_⟩
    have td : (l.drop n).length = ops.size - n := by rw [hl]; simp
    have := wpAny_of_seq (md := md) (ops := ops) (Q' := Q) (l.drop n) n listed a w (fun j => by rw [hl]; simp [List.getElem?_drop]) (by rw [td]; exact hB') h
    rwa [td] at this
  | .take i t, f, listed, a, w, inv, hB, hS, h => by
    simp only [treeB, Bool.and_eq_true, decide_eq_true_eq] at hB
    obtain ⟨hf0, hin, hr, hf, hB'⟩ := hB
    have hr' : i ∈ Region.ready md ops listed := by simpa using hr
    obtain ⟨o, v, h0, hy, h'⟩ := h
    obtain ⟨f, rfl⟩ : ∃ g, f = g + 1 := ⟨f - 1, by omega⟩
    exact wpAnyG_first h0 (Region.noSelect_spec hsel) hs hc hn hin (fun c a w => hQ c a _ _ w) f listed a w inv (Region.free_spec h0 hf) hr' hy hS (wpAnyG_tree hl hsel hs hc hn hQ t _ _ _ w (inv.set hr' hin) hB' hS h')
  | .one i t, f, listed, a, w, inv, hB, hS, h => by
    simp only [treeB, Bool.and_eq_true, decide_eq_true_eq] at hB
    obtain ⟨hf0, hin, hr, hB'⟩ := hB
    have hr' : i ∈ Region.ready md ops listed := by rw [hr]; simp
    obtain ⟨o, h0, h'⟩ := h
    obtain ⟨f, rfl⟩ : ∃ g, f = g + 1 := ⟨f - 1, by omega⟩
    refine ⟨fun h1 => (by rw [hr] at h1; cases h1), fun i' hi' => ?_⟩
    rw [hr] at hi'
    obtain rfl : i' = i := by simpa using hi'
    exact ⟨hin, wpOp_mono (fun a' w' h2 => ⟨h2.1, wpAnyG_tree hl hsel hs hc hn hQ t _ _ a' w' (inv.set hr' hin) hB' h2.1 h2.2⟩) (wpOp_held h0 h')⟩
  | .fork i ti j tj, f, listed, a, w, inv, hB, hS, h => by
    simp only [treeB, Bool.and_eq_true, decide_eq_true_eq] at hB
    obtain ⟨hf0, hin, hjn, hr, hBi, hBj⟩ := hB
    have hri : i ∈ Region.ready md ops listed := by rw [hr]; simp
    have hrj : j ∈ Region.ready md ops listed := by rw [hr]; simp
    obtain ⟨⟨oi, hi0, hi'⟩, ⟨oj, hj0, hj'⟩⟩ := h
    obtain ⟨f, rfl⟩ : ∃ g, f = g + 1 := ⟨f - 1, by omega⟩
    refine ⟨fun h1 => (by rw [hr] at h1; cases h1), fun k hk => ?_⟩
    rw [hr] at hk
    have hk2 : k = i ∨ k = j := by simpa using hk
    rcases hk2 with rfl | rfl
    · exact ⟨hin, wpOp_mono (fun a' w' h2 => ⟨h2.1, wpAnyG_tree hl hsel hs hc hn hQ ti _ _ a' w' (inv.set hri hin) hBi h2.1 h2.2⟩) (wpOp_held hi0 hi')⟩
    · exact ⟨hjn, wpOp_mono (fun a' w' h2 => ⟨h2.1, wpAnyG_tree hl hsel hs hc hn hQ tj _ _ a' w' (inv.set hrj hjn) hBj h2.1 h2.2⟩) (wpOp_held hj0 hj')⟩

def treeFits (md : Region.Mode) (ops : Array Oper) (n : Nat) (t : PTree) : Bool :=
  Region.noSelect ops && (decide (n < ops.size) && (Region.sinkB md ops n && (Region.chainB md ops n && treeB md ops n t n (Array.replicate ops.size false))))

/-- A REGION BY A TREE OF PLANS -/
theorem wp_region_tree {id : Nat} {a : Act} {w : World} {l : List Oper} (S : World → Prop) (n : Nat) (t : PTree) (hm : P.follows .mixedOrders = true) (hB : treeFits .any l.toArray n t = true) (hQ : ∀ c a d v w, Q (.panic c) (Act.put a d v) w → Q (.panic c) a w) (hS : S w.drew)
    (h : treeWalk P l.toArray S Q (fun a w => wpList P l.toArray Q (l.drop n) a w) t a w.drew) : (Code.region id l.toArray true).wp P Q a w := by
  simp only [treeFits, Bool.and_eq_true, decide_eq_true_eq] at hB
  obtain ⟨hsel, hn, hs, hc, hB⟩ := hB
  refine wp_region_any hm ?_
  have inv0 : HeadInv .any l.toArray n (Array.replicate l.toArray.size false) :=
    ⟨by simp, fun j oj _ hl => (by rw [getD_replicate_false] at hl; cases hl), fun t _ ht => getD_in (by simpa using ht) (getD_replicate_false _ _)⟩
  have H := wpAny_of_G _ _ _ _ (wpAnyG_tree (md := .any) rfl hsel hs hc hn hQ t _ _ a w.drew inv0 hB hS h)
  rw [show n + (l.toArray.size - n) = l.toArray.size by omega] at H
  exact H

variable {K : Act → World → Prop} {i : Nat} {t : PTree} {a : Act} {w : World} {dst : Option Tmp} {ty : TypeId} {pos : String} {after : Array Edge} {guard : Option (Nat × Bool)}

theorem tree_load {tt : TypeId} {x : Operand} (h0 : ops[i]? = some { dst := dst, op := .load tt x, type := ty, pos := pos, after := after, guard := guard }) (hw : Region.wanted { dst := dst, op := .load tt x, type := ty, pos := pos, after := after, guard := guard } (yielded ops a.tmps) = true) (p : Addr) (hx : a.eval x = .pointer (some p)) (v : Value)
    (hl : ∀ w', S w' → (loadVar tt p).run P w' = .ok v w') (h : treeWalk P ops S Q K t (a.put dst v) w) : treeWalk P ops S Q K (.take i t) a w :=
  ⟨_, v, h0, .inl ⟨hw, fun w' hw' => by
    unfold execOp
    simp only [hx, Instr.loadAt, Instr.sureAddr, Sem.run_bind, Sem.run_pure, Result.andThen_ok, hl w' hw']⟩, h⟩

theorem tree_plain {o : Oper} (h0 : ops[i]? = some o) (hw : Region.wanted o (yielded ops a.tmps) = true) (v : Value) (hr : ∀ w', (execOp a.eval o).run P w' = .ok (.value v) w') (h : treeWalk P ops S Q K t (a.put o.dst v) w) : treeWalk P ops S Q K (.take i t) a w :=
  ⟨o, v, h0, .inl ⟨hw, fun w' _ => hr w'⟩, h⟩

theorem list_call {x : Operand} {xs : Array Operand} {ats : Array TypeId}
    (hw : Region.wanted { dst := dst, op := .call { callee := .value x, args := xs, argTypes := ats }, type := ty, pos := pos, after := after, guard := guard } (yielded ops a.tmps) = true) (f : FuncId) (first caps : Array Value) (hx : a.eval x = .func (.func f) first caps) (fn : Func) (hf : P.funcs[f]? = some fn) (hn : (fn.name == "runtime.NumGoroutine") = false) (hb : fn.body.isNone = false) (al : List Value) (ha : xs.toList.map a.eval = al)
    (args : Array Value) (hargs : first ++ al.toArray ++ caps = args) (R : Ending → World → Prop) (hc : Calls P f args w R) (h : ∀ e w', R e w' → ∃ v, e = .returned v ∧ S w' ∧ K (a.put dst v) w') : wpList P ops (heldPost S Q K) [{ dst := dst, op := .call { callee := .value x, args := xs, argTypes := ats }, type := ty, pos := pos, after := after, guard := guard }] a w := by
  unfold wpList
  rw [if_pos hw]
  left
  unfold Oper.wp
  have ha' : xs.map a.eval = al.toArray := by rw [← ha, ← Array.toList_map]
  have h1 : fn.name ≠ "runtime.NumGoroutine" := by simpa using hn
  have h2 : fn.body ≠ none := fun e => by rw [e] at hb; cases hb
  have hr : (execOp a.eval { dst := dst, op := .call { callee := .value x, args := xs, argTypes := ats }, type := ty, pos := pos, after := after, guard := guard }).run P w = .ok (.enter f (first ++ xs.map a.eval ++ caps)) w := by
    unfold execOp
    simp [resolve, hx, Deferred.ofValue, invoke, callFunc, hf, h1, h2]
  rw [hr, ha', hargs]
  simp only [Oper.upon]
  refine hc.mono ?_
  rintro e w'' hR
  obtain ⟨v, rfl, hS', h'⟩ := h e w'' hR
  exact ⟨hS', h'⟩
theorem tree_fork {j : Nat} {tj : PTree} (hi : treeWalk P ops S Q K (.one i t) a w) (hj : treeWalk P ops S Q K (.one j tj) a w) : treeWalk P ops S Q K (.fork i t j tj) a w := ⟨hi, hj⟩

theorem tree_call {x : Operand} {xs : Array Operand} {ats : Array TypeId} (h0 : ops[i]? = some { dst := dst, op := .call { callee := .value x, args := xs, argTypes := ats }, type := ty, pos := pos, after := after, guard := guard })
    (hw : Region.wanted { dst := dst, op := .call { callee := .value x, args := xs, argTypes := ats }, type := ty, pos := pos, after := after, guard := guard } (yielded ops a.tmps) = true) (f : FuncId) (first caps : Array Value) (hx : a.eval x = .func (.func f) first caps) (fn : Func) (hf : P.funcs[f]? = some fn) (hn : (fn.name == "runtime.NumGoroutine") = false) (hb : fn.body.isNone = false) (al : List Value) (ha : xs.toList.map a.eval = al)
    (args : Array Value) (hargs : first ++ al.toArray ++ caps = args) (R : Ending → World → Prop) (hc : Calls P f args w R) (h : ∀ e w', R e w' → ∃ v, e = .returned v ∧ S w' ∧ treeWalk P ops S Q K t (a.put dst v) w') : treeWalk P ops S Q K (.one i t) a w :=
  ⟨_, h0, list_call hw f first caps hx fn hf hn hb al ha args hargs R hc h⟩

/-- an operation that makes memory -/
theorem tree_make {o : Oper} (h0 : ops[i]? = some o) (hw : Region.wanted o (yielded ops a.tmps) = true) (v : Value) (w1 : World) (hr : (execOp a.eval o).run P w = .ok (.value v) w1) (hS : S w1) (h : treeWalk P ops S Q K t (a.put o.dst v) w1) : treeWalk P ops S Q K (.one i t) a w := by
  refine ⟨o, h0, ?_⟩
  unfold wpList
  rw [if_pos hw]
  left
  unfold Oper.wp
  rw [hr]
  simp only [Oper.upon]
  exact ⟨hS, h⟩

end
end Go.Proofs.Ytedfbaeajofmnaa
