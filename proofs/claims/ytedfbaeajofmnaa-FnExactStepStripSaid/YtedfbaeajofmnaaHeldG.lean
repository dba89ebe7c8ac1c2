/- Regions whose order is open, whose first operations are loads that may come at any time before the last part: the loads taken first, what makes memory in one order behind them. Conditions: those of wpAny_held_tail. -/
import Derived.Test.YtedfbaeajofmnaaBu17
import Derived.OrdersHeld
namespace Go.Proofs.Ytedfbaeajofmnaa
open Go Go.RowKit
set_option linter.unusedVariables false

section
variable {P : Program} {ops : Array Oper} {md : Region.Mode} {Q : Exit → Act → World → Prop} {S : World → Prop}

/-- the first f operations are among the first n, in whatever order, and S holds behind each; then g more -/
def wpAnyG (P : Program) (md : Region.Mode) (ops : Array Oper) (Q : Exit → Act → World → Prop) (S : World → Prop) (n g : Nat) : Nat → Array Bool → Act → World → Prop
  | 0, listed, a, w => (∀ j ∈ Region.ready md ops listed, n ≤ j) ∧ wpAny P md ops Q g listed a w
  | f + 1, listed, a, w => Region.ready md ops listed ≠ [] ∧ ∀ i ∈ Region.ready md ops listed, i < n ∧ wpOp P ops Q i (fun a' w' => S w' ∧ wpAnyG P md ops Q S n g f (listed.setIfInBounds i true) a' w') a w

theorem wpAny_of_G {n g : Nat} : ∀ (f : Nat) (listed : Array Bool) (a : Act) (w : World), wpAnyG P md ops Q S n g f listed a w → wpAny P md ops Q (f + g) listed a w
  | 0, _, _, _, h => by rw [Nat.zero_add]; exact h.2
  | f + 1, listed, a, w, h => by
    rw [show f + 1 + g = (f + g) + 1 by omega]
    exact ⟨fun h0 => absurd h0 h.1, fun i hi => wpOp_mono (fun a' w' h' => wpAny_of_G f _ a' w' h'.2) (h.2 i hi).2⟩

theorem wpAnyG_first {n g i : Nat} {oi : Oper} {v : Value} (hi : ops[i]? = some oi) (hsel : ∀ (j : Nat) (o : Oper) cs b, ops[j]? = some o → o.op ≠ .select cs b)
    (hs : Region.sinkB md ops n = true) (hc : Region.chainB md ops n = true) (hn : n < ops.size) (hin : i < n)
    (hQ : ∀ c a w, Q (.panic c) (a.put oi.dst v) w → Q (.panic c) a w) :
    ∀ (f : Nat) (listed : Array Bool) (a : Act) (w : World), HeadInv md ops n listed →
      (∀ j oj, ops[j]? = some oj → j ≠ i → listed.getD j true = false → (∀ e ∈ oj.after, Region.binds md e = true → e.on ≠ i) → oi.apart ops oj = true) →
      i ∈ Region.ready md ops listed → YieldsIf P ops S oi v a → S w →
      wpAnyG P md ops Q S n g f (listed.setIfInBounds i true) (a.put oi.dst v) w → wpAnyG P md ops Q S n g (f + 1) listed a w := by
  intro f
  induction f with
  | zero =>
    intro listed a w inv _ hr hy hS H
    have hun := (mem_ready.1 hr).1
    refine ⟨fun h => (by rw [h] at hr; cases hr), fun j hj => ?_⟩
    have hjn : j < n := by
      rcases Nat.lt_or_ge j n with h | h
      · exact h
      · exact absurd hj (tail_waits hs hc hn inv _ i rfl hin hun j h)
    refine ⟨hjn, ?_⟩
    by_cases hji : j = i
    · subst hji; exact hy.wpOp hi hS ⟨hS, H⟩
    · have := H.1 j (ready_mono hj hji)
      omega
  | succ f ih =>
    intro listed a w inv hfree hr hy hS H
    have hun := (mem_ready.1 hr).1
    refine ⟨fun h => (by rw [h] at hr; cases hr), fun j hj => ?_⟩
    have hjn : j < n := by
      rcases Nat.lt_or_ge j n with h | h
      · exact h
      · exact absurd hj (tail_waits hs hc hn inv _ i rfl hin hun j h)
    refine ⟨hjn, ?_⟩
    by_cases hji : j = i
    · subst hji; exact hy.wpOp hi hS ⟨hS, H⟩
    · have h1 := (H.2 j (ready_mono hj hji)).2
      obtain ⟨hjun, oj, hoj, hall⟩ := mem_ready.1 hj
      have hnot : ∀ e ∈ oj.after, Region.binds md e = true → e.on ≠ i := fun e he hb heq => by
        have h1 := hall e he hb
        rw [heq, getD_both hun] at h1
        cases h1
      have h2 := wpOp_putIf hoj (hfree j oj hoj hji hjun hnot) (fun cs b => hsel i oi cs b hi) (fun cs b => hsel j oj cs b hoj) hQ hy h1
      have hfree' : ∀ k ok, ops[k]? = some ok → k ≠ i → (listed.setIfInBounds j true).getD k true = false →
          (∀ e ∈ ok.after, Region.binds md e = true → e.on ≠ i) → oi.apart ops ok = true := fun k ok hk hki hun hno => by
        refine hfree k ok hk hki ?_ hno
        by_cases hjk : j = k
        · subst hjk; exact hjun
        · rw [getD_set_ne true hjk] at hun; exact hun
      refine wpOp_mono (fun a' w' h3 => ⟨h3.2.1, ih (listed.setIfInBounds j true) a' w' (inv.set hj hjn) hfree' (ready_mono hr (Ne.symm hji)) h3.1 h3.2.1 ?_⟩) h2
      rw [Array.setIfInBounds_comm _ _ hji]
      exact h3.2.2

/-- operations that yield in every world of S, one after another -/
def takes (P : Program) (ops : Array Oper) (S : World → Prop) (K : Act → Prop) : List Oper → Act → Prop
  | [], a => K a
  | o :: l, a => ∃ v, YieldsIf P ops S o v a ∧ takes P ops S K l (a.put o.dst v)

def heldPost (S : World → Prop) (Q : Exit → Act → World → Prop) (K : Act → World → Prop) : Exit → Act → World → Prop
  | .normal, a, w => S w ∧ K a w
  | e, a, w => Q e a w

theorem takes_mono {K K' : Act → Prop} (hK : ∀ a, K a → K' a) : ∀ (l : List Oper) (a : Act), takes P ops S K l a → takes P ops S K' l a
  | [], _, h => hK _ h
  | o :: l, a, ⟨v, hy, h⟩ => ⟨v, hy, takes_mono hK l _ h⟩

/-- operations in one order, S behind each -/
def heldList (P : Program) (ops : Array Oper) (S : World → Prop) (Q : Exit → Act → World → Prop) (K : Act → World → Prop) : List Oper → Act → World → Prop
  | [], a, w => K a w
  | o :: l, a, w => wpList P ops (heldPost S Q (heldList P ops S Q K l)) [o] a w

theorem wp_heldPost {o : Oper} {a : Act} {w : World} {K : Act → World → Prop} (h : o.wp P a w (fun a' w' => heldPost S Q K .normal a' w') (heldPost S Q K)) : o.wp P a w (fun a' w' => S w' ∧ K a' w') Q := by
  unfold Oper.wp at *
  generalize (execOp a.eval o).run P w = r at *
  cases r with
  | ok x w' =>
    cases x <;> simp only [Oper.upon] at h ⊢ <;> first
      | exact h
      | exact Calls.mono h (fun e w'' he => by cases e <;> first | exact he | (obtain ⟨a', w', h'⟩ := he; exact ⟨a', w', h'⟩))
  | halt x w' => cases x <;> simp only [Oper.upon] at h ⊢ <;> first | exact h | exact h.elim

theorem wpOp_held {o : Oper} {i : Nat} {a : Act} {w : World} {K : Act → World → Prop} (hi : ops[i]? = some o) (h : wpList P ops (heldPost S Q K) [o] a w) : wpOp P ops Q i (fun a' w' => S w' ∧ K a' w') a w := by
  unfold wpOp
  simp only [hi]
  unfold wpList at h
  split
  · rename_i hw
    simp only [hw, if_true] at h
    rcases h with h | h
    · left
      refine wp_heldPost (Oper.wp_mono (fun a' w' h' => ?_) h)
      exact h'
    · right
      exact ⟨h.1, let ⟨a', w', h'⟩ := h.2; ⟨a', w', h'⟩⟩
  · rename_i hw
    simp only [hw, Bool.false_eq_true, if_false] at h
    exact h

def heldB (md : Region.Mode) (ops : Array Oper) : Nat → Nat → Array Bool → Bool
  | 0, _, _ => true
  | f + 1, k, listed => decide (Region.ready md ops listed = [k]) && heldB md ops f (k + 1) (listed.setIfInBounds k true)
def freeB (md : Region.Mode) (ops : Array Oper) : Nat → Nat → Array Bool → Bool
  | 0, _, _ => true
  | f + 1, k, listed => (Region.ready md ops listed).contains k && Region.free md ops listed k && freeB md ops f (k + 1) (listed.setIfInBounds k true)
def listedTo (N : Nat) : Nat → Array Bool
  | 0 => Array.replicate N false
  | k + 1 => (listedTo N k).setIfInBounds k true
/-- the first k are taken first, the next come in one order, then the last part -/
def heldTailB (md : Region.Mode) (ops : Array Oper) (k n : Nat) : Bool :=
  Region.noSelect ops && decide (n < ops.size) && decide (k ≤ n) && Region.sinkB md ops n && Region.chainB md ops n && freeB md ops k 0 (Array.replicate ops.size false) && heldB md ops (n - k) k (listedTo ops.size k) && Region.seqB md ops (ops.size - n) n (listedTo ops.size n)

theorem wpAnyG_seq {n g N : Nat} {Kt : List Oper} (hN : N = ops.size) : ∀ (l : List Oper) (k : Nat) (a : Act) (w : World), (∀ j, j < l.length → l[j]? = ops[k + j]?) → k + l.length = n → heldB md ops l.length k (listedTo N k) = true →
    (∀ a w, wpList P ops Q Kt a w → wpAnyG P md ops Q S n g 0 (listedTo N n) a w) → heldList P ops S Q (fun a w => wpList P ops Q Kt a w) l a w → wpAnyG P md ops Q S n g l.length (listedTo N k) a w
  | [], k, a, w, _, hk, _, hT, h => by
    have : k = n := by simpa using hk
    subst this
    exact hT _ _ h
  | o :: l, k, a, w, hl, hk, hB, hT, h => by
    have h0 : ops[k]? = some o := by simpa using (hl 0 (by simp)).symm
    simp only [List.length_cons, heldB, Bool.and_eq_true, decide_eq_true_eq] at hB
    refine ⟨fun h1 => (by rw [hB.1] at h1; cases h1), fun i hi => ?_⟩
    rw [hB.1] at hi
    obtain rfl : i = k := by simpa using hi
    refine ⟨by simp only [List.length_cons] at hk; omega, ?_⟩
    refine wpOp_mono (fun a' w' h' => ⟨h'.1, ?_⟩) (wpOp_held h0 h)
    exact wpAnyG_seq hN l (i + 1) a' w' (fun j hj => by have := hl (j + 1) (by simp; omega); simpa [Nat.add_assoc, Nat.add_comm 1 j] using this) (by simp only [List.length_cons] at hk; omega) hB.2 hT h'.2

theorem wpAnyG_takes {n g N f : Nat} (hsel : Region.noSelect ops = true) (hs : Region.sinkB md ops n = true) (hc : Region.chainB md ops n = true) (hn : n < ops.size) (hN : N = ops.size)
    (hQ : ∀ c a d v w, Q (.panic c) (Act.put a d v) w → Q (.panic c) a w) {w : World} (hS : S w) : ∀ (l : List Oper) (k : Nat) (a : Act), (∀ j, j < l.length → l[j]? = ops[k + j]?) → k + l.length ≤ n → HeadInv md ops n (listedTo N k) → freeB md ops l.length k (listedTo N k) = true →
    takes P ops S (fun a' => wpAnyG P md ops Q S n g f (listedTo N (k + l.length)) a' w) l a → wpAnyG P md ops Q S n g (l.length + f) (listedTo N k) a w
  | [], k, a, _, _, _, _, h => by simpa [takes] using h
  | o :: l, k, a, hl, hk, inv, hB, h => by
    have h0 : ops[k]? = some o := by simpa using (hl 0 (by simp)).symm
    simp only [List.length_cons, freeB, Bool.and_eq_true] at hB
    obtain ⟨⟨hr, hf⟩, hB'⟩ := hB
    have hr' : k ∈ Region.ready md ops (listedTo N k) := by simpa using hr
    have hkn : k < n := by simp only [List.length_cons] at hk; omega
    obtain ⟨v, hy, h'⟩ := h
    have := wpAnyG_takes hsel hs hc hn hN hQ hS l (k + 1) (a.put o.dst v) (fun j hj => by have := hl (j + 1) (by simp; omega); simpa [Nat.add_assoc, Nat.add_comm 1 j] using this) (by simp only [List.length_cons] at hk; omega) (inv.set hr' hkn) hB' (by
      rw [show k + 1 + l.length = k + (o :: l).length by simp only [List.length_cons]; omega]
      exact h')
    rw [show (o :: l).length + f = (l.length + f) + 1 by simp only [List.length_cons]; omega]
    exact wpAnyG_first h0 (Region.noSelect_spec hsel) hs hc hn hkn (fun c a w => hQ c a _ _ w) (l.length + f) (listedTo N k) a w inv (Region.free_spec h0 hf) hr' hy hS this

/-- THE LOADS FIRST, WHAT MAKES MEMORY IN ONE ORDER BEHIND THEM, AND THE LAST PART. -/
theorem wpAny_held_tail {a : Act} {w : World} {l : List Oper} (S : World → Prop) (k n : Nat) (hB : heldTailB .any l.toArray k n = true) (hQ : ∀ c a d v w, Q (.panic c) (Act.put a d v) w → Q (.panic c) a w) (hS : S w)
    (h : takes P l.toArray S (fun a' => heldList P l.toArray S Q (fun a w => wpList P l.toArray Q (l.drop n) a w) ((l.drop k).take (n - k)) a' w) (l.take k) a) : wpAny P .any l.toArray Q l.toArray.size (Array.replicate l.toArray.size false) a w := by
  simp only [heldTailB, Bool.and_eq_true, decide_eq_true_eq] at hB
  obtain ⟨⟨⟨⟨⟨⟨⟨hsel, hn⟩, hkn⟩, hs⟩, hc⟩, hfr⟩, hhe⟩, hsq⟩ := hB
  have hn' : n < l.length := by simpa using hn
  have tk : (l.take k).length = k := by simp; omega
  have tm : ((l.drop k).take (n - k)).length = n - k := by simp; omega
  have td : (l.drop n).length = l.toArray.size - n := by simp
  have inv0 : HeadInv .any l.toArray n (listedTo l.toArray.size 0) :=
    ⟨by simp [listedTo], fun j oj _ hl => (by unfold listedTo at hl; rw [getD_replicate_false] at hl; cases hl), fun t _ ht => by unfold listedTo; exact getD_in (by simpa using ht) (getD_replicate_false _ _)⟩
  have H := wpAnyG_takes (g := l.toArray.size - n) (f := n - k) (md := .any) hsel hs hc hn rfl hQ hS (l.take k) 0 a (fun j hj => by
    have hj' : j < k := by rw [tk] at hj; exact hj
    simp [hj']) (by rw [tk]; omega) inv0 (by rw [tk]; exact hfr) (by
      rw [tk, Nat.zero_add]
      refine takes_mono (fun a' h' => ?_) (l.take k) a h
      have := wpAnyG_seq (md := .any) (g := l.toArray.size - n) (N := l.toArray.size) (n := n) rfl ((l.drop k).take (n - k)) k a' w (fun j hj => by
        rw [tm] at hj
        rw [List.getElem?_take_of_lt hj, List.getElem?_drop]; simp) (by rw [tm]; omega) (by rw [tm]; exact hhe) (fun a w hw => ⟨fun j hj => seqB_ready hsq j hj, by
          have := wpAny_of_seq (md := .any) (ops := l.toArray) (Q' := Q) (l.drop n) n (listedTo l.toArray.size n) a w (fun j => by simp [List.getElem?_drop]) (by rw [td]; exact hsq) hw
          rwa [td] at this⟩) h'
      rwa [tm] at this)
  rw [tk] at H
  have H2 := wpAny_of_G _ _ _ _ H
  rw [show k + (n - k) + (l.toArray.size - n) = l.toArray.size by omega] at H2
  exact H2

theorem takes_load {dst : Option Tmp} {ty : TypeId} {pos : String} {after : Array Edge} {guard : Option (Nat × Bool)} {t : TypeId} {x : Operand} {a : Act} {rest : List Oper} {K : Act → Prop}
    (hw : Region.wanted { dst := dst, op := .load t x, type := ty, pos := pos, after := after, guard := guard } (yielded ops a.tmps) = true) (p : Addr) (hx : a.eval x = .pointer (some p)) (v : Value) (hl : ∀ w', S w' → (loadVar t p).run P w' = .ok v w')
    (h : takes P ops S K rest (a.put dst v)) : takes P ops S K ({ dst := dst, op := .load t x, type := ty, pos := pos, after := after, guard := guard } :: rest) a :=
  ⟨v, .inl ⟨hw, fun w' hw' => by
    unfold execOp
    simp only [hx, Instr.loadAt, Instr.sureAddr, Sem.run_bind, Sem.run_pure, Result.andThen_ok, hl w' hw']⟩, h⟩

/-- a call of a closure -/
theorem wpList_callE {dst : Option Tmp} {ty : TypeId} {pos : String} {after : Array Edge} {guard : Option (Nat × Bool)} {x : Operand} {xs : Array Operand} {ats : Array TypeId} {a : Act} {rest : List Oper} {w : World}
    (hw : Region.wanted { dst := dst, op := .call { callee := .value x, args := xs, argTypes := ats }, type := ty, pos := pos, after := after, guard := guard } (yielded ops a.tmps) = true) (f : FuncId) (fn : Func) (lb : Array Value) (hx : a.eval x = .func (.func f) #[] lb)
    (hf : P.funcs[f]? = some fn) (hn : (fn.name == "runtime.NumGoroutine") = false) (hb : fn.body.isNone = false) (al : List Value) (ha : xs.toList.map a.eval = al)
    (h : Calls P f (al.toArray ++ lb) w fun e w'' => ∃ v, e = .returned v ∧ wpList P ops Q rest (a.put dst v) w'') :
    wpList P ops Q ({ dst := dst, op := .call { callee := .value x, args := xs, argTypes := ats }, type := ty, pos := pos, after := after, guard := guard } :: rest) a w := by
  have ha' : xs.map a.eval = al.toArray := by rw [← ha, ← Array.toList_map]
  rw [← ha'] at h
  unfold wpList
  rw [if_pos hw]
  left
  unfold Oper.wp
  have h1 : fn.name ≠ "runtime.NumGoroutine" := by simpa using hn
  have h2 : fn.body ≠ none := fun e => by rw [e] at hb; cases hb
  have hr : (execOp a.eval { dst := dst, op := .call { callee := .value x, args := xs, argTypes := ats }, type := ty, pos := pos, after := after, guard := guard }).run P w = .ok (.enter f (xs.map a.eval ++ lb)) w := by
    unfold execOp
    simp [resolve, hx, Deferred.ofValue, invoke, callFunc, hf, h1, h2]
  rw [hr]
  simp only [Oper.upon]
  refine h.mono ?_
  rintro e w'' ⟨v, rfl, h'⟩
  exact h'
end

end Go.Proofs.Ytedfbaeajofmnaa
