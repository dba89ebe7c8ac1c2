/- Several texts in one: facts on floats, lists, memory and the functions that the theorems beside this text use. Conditions: none beyond those of each theorem. -/
import Derived.Test.YtedfbaeajofmnaaBu0
import Derived.StillTail
import Derived.Laws.Rows
import Derived.Test.YtedfbaeajofmnaaBu5
import Derived.Test.YtedfbaeajofmnaaBu8
import Derived.Test.YtedfbaeajofmnaaBu15
import Derived.Deep.WholeRow
import Derived.Laws.CopyOwn
import Derived.StillTailTactics

set_option linter.unusedVariables false

section

namespace Go.Proofs.Ytedfbaeajofmnaa
open Go Go.RowKit

section
variable {P : Program} {ops : Array Oper} {md : Region.Mode} {C : World → Prop} {Sp : FuncId → Array Value → Value → Prop}

/-- whatever order is picked, as long as only the first n operations come up; then L -/
def anyRelL (P : Program) (md : Region.Mode) (ops : Array Oper) (C : World → Prop) (Sp : FuncId → Array Value → Value → Prop) (n : Nat) (L : Array Bool → Act → Prop) : Nat → Array Bool → Act → Prop
  | 0, listed, a => L listed a
  | f + 1, listed, a => Region.ready md ops listed ≠ [] ∧ ∀ i ∈ Region.ready md ops listed, i < n ∧ nthRel P ops C Sp i (anyRelL P md ops C Sp n L f (listed.setIfInBounds i true)) a

theorem wpOp_of_nthRel {i : Nat} {K : Act → Prop} {K' : Act → World → Prop} {Q' : Exit → Act → World → Prop} {a : Act} {w : World} (hw : C w) (h : ∀ a w', C w' → K a → K' a w') (hh : nthRel P ops C Sp i K a) : wpOp P ops Q' i K' a w := by
  unfold nthRel at hh
  unfold wpOp
  cases ho : ops[i]? with
  | none => simp only [ho] at hh; exact h _ _ hw hh
  | some o =>
    simp only [ho] at hh
    dsimp only
    split
    · rename_i hwn
      simp only [hwn, if_true] at hh
      exact .inl (wp_of_relOp hw h hh)
    · rename_i hwn
      simp only [hwn, Bool.false_eq_true, if_false] at hh
      exact h _ _ hw hh

theorem wpAny_of_headRel {n g : Nat} {L : Array Bool → Act → Prop} {Q' : Exit → Act → World → Prop} (hL : ∀ listed a w, C w → L listed a → wpAny P md ops Q' g listed a w) :
    ∀ (f : Nat) (listed : Array Bool) (a : Act) (w : World), C w → anyRelL P md ops C Sp n L f listed a → wpAny P md ops Q' (f + g) listed a w
  | 0, listed, a, w, hw, h => by rw [Nat.zero_add]; exact hL _ _ _ hw h
  | f + 1, listed, a, w, hw, h => by
    rw [show f + 1 + g = (f + g) + 1 by omega]
    exact ⟨fun h0 => absurd h0 h.1, fun i hi => wpOp_of_nthRel hw (fun a' w' hw' h' => wpAny_of_headRel hL f _ a' w' hw' h') (h.2 i hi).2⟩

theorem anyRelL_first {n i : Nat} {oi : Oper} {V : Value → Prop} {L : Array Bool → Act → Prop} (hi : ops[i]? = some oi) (hsel : ∀ (j : Nat) (o : Oper) cs b, ops[j]? = some o → o.op ≠ .select cs b)
    (hs : Region.sinkB md ops n = true) (hc : Region.chainB md ops n = true) (hn : n < ops.size) (hin : i < n) {w0 : World} (hw0 : C w0)
    (hdone : ∀ listed a, L listed a → ∀ j ∈ Region.ready md ops listed, n ≤ j) :
    ∀ (f : Nat) (listed : Array Bool) (a : Act), HeadInv md ops n listed →
      (∀ j oj, ops[j]? = some oj → j ≠ i → listed.getD j true = false → (∀ e ∈ oj.after, Region.binds md e = true → e.on ≠ i) → oi.apart ops oj = true) →
      i ∈ Region.ready md ops listed → mayLeave P ops C Sp oi a V →
      (∀ v, V v → anyRelL P md ops C Sp n L f (listed.setIfInBounds i true) (a.put oi.dst v)) → anyRelL P md ops C Sp n L (f + 1) listed a := by
  intro f
  induction f with
  | zero =>
    intro listed a inv _ hr hy H
    have hun := (mem_ready.1 hr).1
    refine ⟨fun h => (by rw [h] at hr; cases hr), fun j hj => ?_⟩
    have hjn : j < n := by
      rcases Nat.lt_or_ge j n with h | h
      · exact h
      · exact absurd hj (tail_waits hs hc hn inv _ i rfl hin hun j h)
    refine ⟨hjn, ?_⟩
    by_cases hji : j = i
    · subst hji; exact hy.nth hi H
    · obtain ⟨v, hv⟩ := hy.some hw0
      have := hdone _ _ (H v hv) j (ready_mono hj hji)
      omega
  | succ f ih =>
    intro listed a inv hfree hr hy H
    have hun := (mem_ready.1 hr).1
    refine ⟨fun h => (by rw [h] at hr; cases hr), fun j hj => ?_⟩
    have hjn : j < n := by
      rcases Nat.lt_or_ge j n with h | h
      · exact h
      · exact absurd hj (tail_waits hs hc hn inv _ i rfl hin hun j h)
    refine ⟨hjn, ?_⟩
    by_cases hji : j = i
    · subst hji; exact hy.nth hi H
    · obtain ⟨hjun, oj, hoj, hall⟩ := mem_ready.1 hj
      have hnot : ∀ e ∈ oj.after, Region.binds md e = true → e.on ≠ i := fun e he hb heq => by
        have h1 := hall e he hb
        rw [heq, getD_both hun] at h1
        cases h1
      obtain ⟨ap1, ap2, ap3⟩ := Oper.apart_spec (hfree j oj hoj hji hjun hnot)
      have hfree' : ∀ k ok, ops[k]? = some ok → k ≠ i → (listed.setIfInBounds j true).getD k true = false →
          (∀ e ∈ ok.after, Region.binds md e = true → e.on ≠ i) → oi.apart ops ok = true := fun k ok hk hki hun hno => by
        refine hfree k ok hk hki ?_ hno
        by_cases hjk : j = k
        · subst hjk; exact hjun
        · rw [getD_set_ne true hjk] at hun; exact hun
      have step : ∀ v, V v → nthRel P ops C Sp j (anyRelL P md ops C Sp n L f ((listed.setIfInBounds i true).setIfInBounds j true)) (a.put oi.dst v) := fun v hv => ((H v hv).2 j (ready_mono hj hji)).2
      have rest : ∀ u, (∀ v, V v → anyRelL P md ops C Sp n L f ((listed.setIfInBounds i true).setIfInBounds j true) ((a.put oi.dst v).put oj.dst u)) → anyRelL P md ops C Sp n L (f + 1) (listed.setIfInBounds j true) (a.put oj.dst u) := fun u hu => by
        refine ih (listed.setIfInBounds j true) (a.put oj.dst u) (inv.set hj hjn) hfree' (ready_mono hr (Ne.symm hji)) (hy.put (fun cs b => hsel i oi cs b hi) ap3) fun v hv => ?_
        have := hu v hv
        rw [Array.setIfInBounds_comm _ _ hji, ← Act.put_comm a v u ap2]
        exact this
      unfold nthRel at step ⊢
      simp only [hoj] at step ⊢
      obtain ⟨v0, hv0⟩ := hy.some hw0
      have hwd : ∀ v, Region.wanted oj (yielded ops (a.put oi.dst v).tmps) = Region.wanted oj (yielded ops a.tmps) := fun v => wanted_put oj a oi.dst v ap1
      have hex : ∀ v, execOp (a.put oi.dst v).eval oj = execOp a.eval oj := fun v => execOp_put oj (fun cs b => hsel j oj cs b hoj) a oi.dst v ap1
      by_cases hw : Region.wanted oj (yielded ops a.tmps) = true
      · rw [if_pos hw]
        have st : ∀ v, V v → relOp P C Sp oj (a.put oi.dst v) (anyRelL P md ops C Sp n L f ((listed.setIfInBounds i true).setIfInBounds j true)) := fun v hv => by
          have := step v hv
          rw [if_pos ((hwd v).trans hw)] at this
          exact this
        refine ⟨?_, fun u hu => rest u fun v hv => ?_⟩
        · have := (st v0 hv0).1
          rw [hex v0] at this
          exact this
        · refine (st v hv).2 u ?_
          rw [hex v]; exact hu
      · rw [if_neg hw]
        refine rest undef fun v hv => ?_
        have := step v hv
        rw [if_neg (by rw [hwd v]; exact hw)] at this
        exact this

theorem anyRelL_lex {n g : Nat} {Lq : Act → Prop} (hsel : Region.noSelect ops = true) (hs : Region.sinkB md ops n = true) (hc : Region.chainB md ops n = true) (hn : n < ops.size) {w0 : World} (hw0 : C w0) :
    ∀ (l : List Oper) (k : Nat) (listed : Array Bool) (a : Act), (∀ j, j < l.length → l[j]? = ops[k + j]?) → k + l.length = n → HeadInv md ops n listed →
    Region.lexHead md ops g l.length k listed = true → wpRel P ops C Sp Lq l a →
    anyRelL P md ops C Sp n (fun listed' a' => Region.seqB md ops g n listed' = true ∧ Lq a') l.length listed a
  | [], k, listed, a, _, hk, _, hB, h => by
    have : k = n := by simpa using hk
    subst this
    exact ⟨by simpa [Region.lexHead] using hB, h⟩
  | o :: l, k, listed, a, hl, hk, inv, hB, h => by
    have h0 : ops[k]? = some o := by simpa using (hl 0 (by simp)).symm
    simp only [List.length_cons, Region.lexHead, Bool.and_eq_true] at hB
    obtain ⟨⟨hr, hf⟩, hB'⟩ := hB
    have hkn : k < n := by simp only [List.length_cons] at hk; omega
    have hr' : k ∈ Region.ready md ops listed := by simpa using hr
    have go : ∀ a', wpRel P ops C Sp Lq l a' → anyRelL P md ops C Sp n (fun listed' a' => Region.seqB md ops g n listed' = true ∧ Lq a') l.length (listed.setIfInBounds k true) a' := fun a' h' =>
      anyRelL_lex hsel hs hc hn hw0 l (k + 1) _ a' (fun j hj => by have := hl (j + 1) (by simp; omega); simpa [Nat.add_assoc, Nat.add_comm 1 j] using this) (by simp only [List.length_cons] at hk; omega) (inv.set hr' hkn) hB' h'
    have dn : ∀ listed' a', (Region.seqB md ops g n listed' = true ∧ Lq a') → ∀ j ∈ Region.ready md ops listed', n ≤ j := fun listed' a' hL => seqB_ready hL.1
    unfold wpRel at h
    by_cases hw : Region.wanted o (yielded ops a.tmps) = true
    · rw [if_pos hw] at h
      exact anyRelL_first h0 (Region.noSelect_spec hsel) hs hc hn hkn hw0 dn l.length listed a inv (Region.free_spec h0 hf) hr' (.inl ⟨hw, h.1, rfl⟩) fun v hv => go _ (h.2 v hv)
    · rw [if_neg hw] at h
      exact anyRelL_first h0 (Region.noSelect_spec hsel) hs hc hn hkn hw0 dn l.length listed a inv (Region.free_spec h0 hf) hr' (.inr ⟨by simpa using hw, rfl⟩) fun v hv => by rw [hv]; exact go _ h

/-- ONE WALK FOR EVERY ORDER of the first n operations, in the worlds of a class; the others come in one order. -/
theorem wp_region_rel_tail {id : Nat} {Q : Exit → Act → World → Prop} {a : Act} {w : World} {l : List Oper} (C : World → Prop) (Sp : FuncId → Array Value → Value → Prop) (n : Nat) (hm : P.follows .mixedOrders = true) (hB : Region.lexTailB .any l.toArray n = true) (hC : C w.drew)
    (h : wpRel P l.toArray C Sp (fun a' => ∀ w', C w' → wpList P l.toArray Q (l.drop n) a' w') (l.take n) a) : (Code.region id l.toArray true).wp P Q a w := by
  simp only [Region.lexTailB, Bool.and_eq_true, decide_eq_true_eq] at hB
  obtain ⟨⟨⟨⟨hsel, hn⟩, hs⟩, hc⟩, hlex⟩ := hB
  have hn' : n < l.length := by simpa using hn
  have htl : (l.take n).length = n := by simp; omega
  have hdl : (l.drop n).length = l.toArray.size - n := by simp
  have inv0 : HeadInv .any l.toArray n (Array.replicate l.toArray.size false) :=
    ⟨by simp, fun j oj _ hl => (by rw [getD_replicate_false] at hl; cases hl), fun t _ ht => getD_in (by simpa using ht) (getD_replicate_false _ _)⟩
  have H := anyRelL_lex (md := .any) (g := l.toArray.size - n) hsel hs hc hn hC (l.take n) 0 _ a (fun j hj => by
    have hj' : j < n := by rw [htl] at hj; exact hj
    simp [hj']) (by simpa using htl) inv0 (by rw [htl]; exact hlex) h
  refine wp_region_any hm ?_
  have := wpAny_of_headRel (Q' := Q) (g := l.toArray.size - n) (fun listed a' w' hw' hL => by
    have := wpAny_of_seq (md := .any) (Q' := Q) (l.drop n) n listed a' w' (fun j => by simp [List.getElem?_drop]) (by rw [hdl]; exact hL.1) (hL.2 w' hw')
    rwa [hdl] at this) _ _ _ _ hC H
  rw [htl, show n + (l.toArray.size - n) = l.toArray.size by omega] at this
  exact this

/-- ONE WALK FOR EVERY ORDER, in the worlds of a class. -/
theorem wp_region_relC {id : Nat} {Q : Exit → Act → World → Prop} {a : Act} {w : World} {l : List Oper} (C : World → Prop) (Sp : FuncId → Array Value → Value → Prop) (hm : P.follows .mixedOrders = true) (hB : Region.lexB .any l.toArray = true) (hC : C w.drew)
    (h : wpRel P l.toArray C Sp (fun a' => ∀ w', C w' → Q .normal a' w') l a) : (Code.region id l.toArray true).wp P Q a w := by
  simp only [Region.lexB, Bool.and_eq_true] at hB
  refine wp_region_any hm (wpAny_of_anyRel (C := C) (Sp := Sp) (Q := fun a' => ∀ w', C w' → Q .normal a' w') (fun _ w' hw' h => h w' hw') _ _ _ _ hC ?_)
  have := anyRel_lex (P := P) (C := C) (Sp := Sp) (md := .any) hB.1 (w0 := w.drew) hC l 0 (Array.replicate l.toArray.size false) a (by simp) (by simpa using hB.2) h
  simpa using this
end

/-! ### The steps -/

section
variable {P : Program} {ops : Array Oper} {C : World → Prop} {Sp : FuncId → Array Value → Value → Prop} {w0 : World} {Q : Act → Prop} {a : Act} {rest : List Oper}

theorem wpRel_load {dst : Option Tmp} {ty : TypeId} {pos : String} {after : Array Edge} {guard : Option (Nat × Bool)} {t : TypeId} {x : Operand}
    (hw : Region.wanted { dst := dst, op := .load t x, type := ty, pos := pos, after := after, guard := guard } (yielded ops a.tmps) = true) (p : Addr) (hx : a.eval x = .pointer (some p)) (v : Value) (hl : ∀ w', C w' → (loadVar t p).run P w' = .ok v w')
    (h : wpRel P ops C Sp Q rest (a.put dst v)) : wpRel P ops C Sp Q ({ dst := dst, op := .load t x, type := ty, pos := pos, after := after, guard := guard } :: rest) a := by
  have hr : ∀ w', C w' → (execOp a.eval { dst := dst, op := .load t x, type := ty, pos := pos, after := after, guard := guard }).run P w' = .ok (.value v) w' := fun w' hw' => by
    unfold execOp
    simp only [hx, Instr.loadAt, Instr.sureAddr, Sem.run_bind, Sem.run_pure, Result.andThen_ok, hl w' hw']
  refine wpRel_want hw ⟨fun w' hw' => by rw [hr w' hw']; exact hw', fun u hu => ?_⟩
  obtain ⟨w', hw', hm⟩ := hu
  rw [hr w' hw'] at hm
  rw [← (show v = u from hm)]; exact h

theorem wpRel_arithC {dst : Option Tmp} {ty : TypeId} {pos : String} {after : Array Edge} {guard : Option (Nat × Bool)} {op : BinOp} {t t2 : TypeId} {x y : Operand}
    (hw : Region.wanted { dst := dst, op := .binOp op t x y t2, type := ty, pos := pos, after := after, guard := guard } (yielded ops a.tmps) = true) (hop : isArith op = true) (hd : ∀ w n, C w → C (w.drewN n)) (k : FloatKind) (p q : Nat) (hx : a.eval x = .float k p) (hy : a.eval y = .float k q)
    (h : ∀ v, canon k v = fop op k (canon k p) (canon k q) → v < 2 ^ k.format.width → wpRel P ops C Sp Q rest (a.put dst (.float k v))) :
    wpRel P ops C Sp Q ({ dst := dst, op := .binOp op t x y t2, type := ty, pos := pos, after := after, guard := guard } :: rest) a := by
  have hop' := isArith_or hop
  have hr : ∀ w, ∃ v m, (execOp a.eval { dst := dst, op := .binOp op t x y t2, type := ty, pos := pos, after := after, guard := guard }).run P w = .ok (.value (.float k v)) (w.drewN m) ∧ canon k v = fop op k (canon k p) (canon k q) ∧ v < 2 ^ k.format.width := fun w => by
    obtain ⟨v, m, hr, hc, hv⟩ := run_arith_any (P := P) w op hop' k p q
    refine ⟨v, m, ?_, hc, hv⟩
    unfold execOp
    have e : binOp op t (.float k p) (.float k q) = Op.floatArith op k p q := by rcases hop' with rfl | rfl | rfl | rfl <;> simp [binOp]
    have g : eqGuard op t x y (.float k p) (.float k q) = pure () := by rcases hop' with rfl | rfl | rfl | rfl <;> rfl
    simp only [hx, hy, g, e, Sem.run_bind, Sem.run_pure, Result.andThen_ok, hr]
  refine wpRel_want hw ⟨fun w hw => ?_, fun u hu => ?_⟩
  · obtain ⟨v, m, hr, _⟩ := hr w
    rw [hr]; exact hd _ _ hw
  · obtain ⟨w, hw, hm⟩ := hu
    obtain ⟨v, m, hr, hc, hl⟩ := hr w
    rw [hr] at hm
    rw [← (show Value.float k v = u from hm)]
    exact h v hc hl

/-- a call: its contract in every world of the class gives what its specification lets -/
theorem wpRel_callC {dst : Option Tmp} {ty : TypeId} {pos : String} {after : Array Edge} {guard : Option (Nat × Bool)} {x : Operand} {xs : Array Operand} {ats : Array TypeId}
    (hw : Region.wanted { dst := dst, op := .call { callee := .value x, args := xs, argTypes := ats }, type := ty, pos := pos, after := after, guard := guard } (yielded ops a.tmps) = true) (f : FuncId) (fn : Func) (hx : a.eval x = .func (.func f) #[] #[])
    (hf : P.funcs[f]? = some fn) (hn : (fn.name == "runtime.NumGoroutine") = false) (hb : fn.body.isNone = false) (al : List Value) (ha : xs.toList.map a.eval = al)
    (hc : ∀ w, C w → Calls P f al.toArray w fun e w'' => ∃ v, e = .returned v ∧ Sp f al.toArray v ∧ C w'')
    (h : ∀ v, Sp f al.toArray v → wpRel P ops C Sp Q rest (a.put dst v)) :
    wpRel P ops C Sp Q ({ dst := dst, op := .call { callee := .value x, args := xs, argTypes := ats }, type := ty, pos := pos, after := after, guard := guard } :: rest) a := by
  have ha' : xs.map a.eval = al.toArray := by rw [← ha, ← Array.toList_map]
  rw [← ha'] at hc h
  refine wpRel_want hw ⟨fun w hw => ?_, fun u hu => ?_⟩
  · rw [run_call_func rfl hx hf hn hb]
    exact hc w hw
  · obtain ⟨w, hw, hm⟩ := hu
    rw [run_call_func rfl hx hf hn hb] at hm
    exact h u hm
end

/-! ### Worlds that only grow -/

def Grows (u w' : World) : Prop := Below u.heap.size u w'

theorem Grows.drew (u : World) : Grows u u.drew := (Below.refl _ _).drew
theorem Grows.drewN {u w : World} (n : Nat) (h : Grows u w) : Grows u (w.drewN n) := below_drewN h n
theorem Grows.next {u w w' : World} (h : Grows u w) (q : Below w.heap.size w w') : Grows u w' := Below.trans h (q.mono (Below.size h))

section
variable {P : Program} {ops : Array Oper} {C : World → Prop} {Sp : FuncId → Array Value → Value → Prop} {Q : Act → Prop} {a : Act} {rest : List Oper}

theorem wpRel_run {o : Oper} (hw : Region.wanted o (yielded ops a.tmps) = true) (v : Value) (hr : ∀ w, (execOp a.eval o).run P w = .ok (.value v) w) (h : wpRel P ops C Sp Q rest (a.put o.dst v)) : wpRel P ops C Sp Q (o :: rest) a := by
  refine wpRel_want hw ⟨fun w' hw' => by rw [hr w']; exact hw', fun u hu => ?_⟩
  obtain ⟨w', hw', hm⟩ := hu
  rw [hr w'] at hm
  rw [← (show v = u from hm)]; exact h

theorem wpRel_build {dst : Option Tmp} {ty : TypeId} {pos : String} {after : Array Edge} {guard : Option (Nat × Bool)} {t : TypeId} {parts : Array (Nat × Operand)}
    (hw : Region.wanted { dst := dst, op := .build t parts, type := ty, pos := pos, after := after, guard := guard } (yielded ops a.tmps) = true) (cells : Array Value) (hb : P.built t (parts.map fun (i, x) => (i, a.eval x)).toList = some cells)
    (h : wpRel P ops C Sp Q rest (a.put dst (.agg cells))) : wpRel P ops C Sp Q ({ dst := dst, op := .build t parts, type := ty, pos := pos, after := after, guard := guard } :: rest) a :=
  wpRel_run hw (.agg cells) (fun w => by
    unfold execOp
    simp only [Sem.run_bind, run_build w t _ cells hb, Result.andThen_ok, Sem.run_pure]) h

theorem wpRel_nilCheck {dst : Option Tmp} {ty : TypeId} {pos : String} {after : Array Edge} {guard : Option (Nat × Bool)} {x : Operand}
    (hw : Region.wanted { dst := dst, op := .nilCheck x, type := ty, pos := pos, after := after, guard := guard } (yielded ops a.tmps) = true) (p : Addr) (hx : a.eval x = .pointer (some p))
    (h : wpRel P ops C Sp Q rest (a.put dst (.pointer (some p)))) : wpRel P ops C Sp Q ({ dst := dst, op := .nilCheck x, type := ty, pos := pos, after := after, guard := guard } :: rest) a :=
  wpRel_run hw (.pointer (some p)) (fun w => by
    unfold execOp
    simp only [hx]
    rfl) h

variable {u : World} {g i : Nat} {cs : Array Value} {t ty : TypeId} {v : Value}

theorem run_loadVar_one (ha : ∀ w, (isAgg ty).run P w = .ok false w) {w : World} {p : Addr} (hc : w.cell? p = some v) : (loadVar ty p).run P w = .ok v w := by
  simp only [loadVar, Sem.run_bind, ha, Result.andThen_ok, Bool.false_eq_true, if_false, run_load, hc]

theorem load_cell (ha : ∀ w, (isAgg ty).run P w = .ok false w) {p : Addr} (hc : u.cell? p = some v) : ∀ w', Grows u w' → (loadVar ty p).run P w' = .ok v w' := fun w' hw' =>
  run_loadVar_one ha (by rw [Below.cell hw' (lt_of_cell hc)]; exact hc)
end

end Go.Proofs.Ytedfbaeajofmnaa

end

section

namespace Go.Proofs.Ytedfbaeajofmnaa
open Go Ieee Go.RowKit
set_option linter.unusedVariables false

section
variable {P : Program} {w w' : World} {g : Nat} {cs ds : Array Value} {e : TypeId}

theorem Blk.row (h : Blk w g cs e) (ds : Array Value) : Blk (w.setRow g ds) g ds e := setRow_heap w g cs ds e (0, 0) h
theorem Blk.rowOther {j : Nat} (h : Blk w g cs e) (hj : g ≠ j) (ds : Array Value) : Blk (w.setRow j ds) g cs e := (setRow_other w j g ds hj).trans h

theorem wpList_alloc_big {ops : Array Oper} {rest : List Oper} {o : Oper} {a : Act} {Q : Exit → Act → World → Prop} (hgd : o.guard = none) (t : TypeId) (ho : o.op = .alloc t) (Z : Array Value) (hz : ∀ w, (zeroValue t).run P w = .ok (.agg Z) w)
    (h : wpList P ops Q rest (a.put o.dst (.pointer (some ⟨w.heap.size, 0, none⟩))) (w.alloc (.cells Z t))) : wpList P ops Q (o :: rest) a w := by
  refine wpList_plain hgd fun K hK => ?_
  unfold Oper.wp execOp
  simp only [ho, Instr.alloc, Sem.run_bind, hz, Result.andThen_ok, newVar, Value.cells]
  exact hK _ _ h
end

def zrow : Array Value := Array.replicate 256 (.float .f32 0)
def zgrid : Array Value := Array.replicate 768 (.float .f32 0)

theorem rows_info : (Try.prog.info? 123).map (fun i => (i.zero, i.size)) = some (some (.agg zrow), 256) := by kernel_rfl
theorem grid_info : (Try.prog.info? 125).map (fun i => (i.zero, i.size)) = some (some (.agg zgrid), 768) := by kernel_rfl

theorem rows_zero : ∀ w, (zeroValue 123).run Try.prog w = .ok (.agg zrow) w := (zero_of_info rows_info).1
theorem grid_zero : ∀ w, (zeroValue 125).run Try.prog w = .ok (.agg zgrid) w := (zero_of_info grid_info).1
theorem rows_size : (Try.prog.info? 123).map (·.size) = some 256 := (zero_of_info rows_info).2
theorem grid_size : (Try.prog.info? 125).map (·.size) = some 768 := (zero_of_info grid_info).2

/-- the numbers of the cells of a sheet m wide and k high, from an offset on -/
def GR (cs : Array Value) (off m k : Nat) (F : Nat → Nat) : Prop := ∀ x y, x < m → y < k → cs[off + (16 * y + x)]? = some (.float .f32 (F (x + m * y)))

/-- as many cells, each of one value -/
def AF (n : Nat) (cs : Array Value) : Prop := cs.size = n ∧ cs.all (·.oneCell') = true

def GF (cs : Array Value) (m k : Nat) (E X Y : Nat → Nat) : Prop := AF 768 cs ∧ GR cs 0 m k E ∧ GR cs 256 m k X ∧ GR cs 512 m k Y

def up1 (F : Nat → Nat) (i v : Nat) : Nat → Nat := fun j => if j = i then v else F j

theorem af_set {n : Nat} {cs : Array Value} (h : AF n cs) (i : Nat) (b : Nat) : AF n (cs.setIfInBounds i (.float .f32 b)) := by
  refine ⟨by rw [Array.size_setIfInBounds]; exact h.1, ?_⟩
  rw [Array.all_eq_true_iff_forall_mem]
  intro v hv
  rcases Array.mem_or_eq_of_mem_setIfInBounds hv with h' | h'
  · exact (Array.all_eq_true_iff_forall_mem.1 h.2) v h'
  · rw [h']; rfl

theorem gr_other {cs : Array Value} {off m k i : Nat} {F : Nat → Nat} (h : GR cs off m k F) (v : Value) (hm : m ≤ 16) (hi : i < off ∨ off + (16 * (k - 1) + 16) ≤ i) : GR (cs.setIfInBounds i v) off m k F := by
  intro x y hx hy
  rw [Array.getElem?_setIfInBounds_ne (by omega)]
  exact h x y hx hy

theorem idx_inj {m x y x' y' : Nat} (hx : x < m) (hx' : x' < m) (h : x + m * y = x' + m * y') : x = x' ∧ y = y' := by
  have h1 : (x + m * y) / m = y := by rw [Nat.add_mul_div_left _ _ (by omega)]; simp [Nat.div_eq_of_lt hx]
  have h2 : (x' + m * y') / m = y' := by rw [Nat.add_mul_div_left _ _ (by omega)]; simp [Nat.div_eq_of_lt hx']
  have hy : y = y' := by rw [← h1, h, h2]
  subst hy
  exact ⟨by omega, rfl⟩

theorem gr_set {cs : Array Value} {off m k n x y : Nat} {F : Nat → Nat} (h : GR cs off m k F) (ha : AF n cs) (hm : m ≤ 16) (hk : off + 16 * k ≤ n) (hx : x < m) (hy : y < k) (v : Nat) :
    GR (cs.setIfInBounds (off + (16 * y + x)) (.float .f32 v)) off m k (up1 F (x + m * y) v) := by
  intro x' y' hx' hy'
  unfold up1
  by_cases e : x' + m * y' = x + m * y
  · obtain ⟨rfl, rfl⟩ := idx_inj hx' hx e
    rw [if_pos rfl, Array.getElem?_setIfInBounds_self_of_lt (by rw [ha.1]; omega)]
  · rw [if_neg e, Array.getElem?_setIfInBounds_ne (by
      intro h'
      apply e
      have : y = y' := by omega
      subst this
      have : x = x' := by omega
      subst this; rfl)]
    exact h x' y' hx' hy'

end Go.Proofs.Ytedfbaeajofmnaa

end

section

namespace Go.Proofs.Ytedfbaeajofmnaa
open Go Ieee Go.RowKit
set_option linter.unusedVariables false

theorem implAt (g o x y v : Nat) (w : World) (hx : x < 16) (hy : y < 16) (hc : w.cell? ⟨g, o + (16 * y + x), none⟩ = some (.float .f32 v)) :
    Calls Try.prog 133 #[.pointer (some ⟨g, o, none⟩), .agg #[.int .i64 (x : Int), .int .i64 (y : Int)]] w fun e w' => e = .returned (.float .f32 v) ∧ Below w.heap.size w w' := by
  have C := Blk.new w #[.int .i64 (x : Int), .int .i64 (y : Int)] 134
  have hc1 := cell_on hc (below_new w (.cells #[.int .i64 (x : Int), .int .i64 (y : Int)] 134))
  have HB : Hid (Below w.heap.size w (w.alloc (.cells #[.int .i64 (x : Int), .int .i64 (y : Int)] 134))) := Lib.hid (below_new _ _)
  have hx' : (x : Int) < 16 := by omega
  have hy' : (y : Int) < 16 := by omega
  go_enter Try.func133, Try.ntmps133
  go_wp2_with fail
  generalize (w.alloc (.cells #[.int .i64 (x : Int), .int .i64 (y : Int)] 134)) = u1 at *
  obtain ⟨Cc, Cf⟩ := C.open
  have he : o + (16 * y + x) = o + y * 16 + x := by omega
  rw [he] at hc1
  clear he hc
  go_quiet (fail)
  go_wp2
  go_ret
  exact ⟨rfl, below_drewN HB.out _⟩

set_option maxRecDepth 100000 in
theorem implPut (g o x y v : Nat) (cs : Array Value) (t : TypeId) (w : World) (hx : x < 16) (hy : y < 16) (hg : Blk w g cs t) (hi : o + (16 * y + x) < cs.size) :
    Calls Try.prog 136 #[.pointer (some ⟨g, o, none⟩), .agg #[.int .i64 (x : Int), .int .i64 (y : Int)], .float .f32 v] w fun e w' => (∃ r, e = .returned r) ∧ Blk w' g (cs.setIfInBounds (o + (16 * y + x)) (.float .f32 v)) t ∧ w.grownBy w' (some g) := by
  have C := Blk.new w #[.int .i64 (x : Int), .int .i64 (y : Int)] 134
  have G := hg.alloc (.cells #[.int .i64 (x : Int), .int .i64 (y : Int)] 134)
  have HB : Hid (w.grownBy (w.alloc (.cells #[.int .i64 (x : Int), .int .i64 (y : Int)] 134)) (some g)) := Lib.hid (grown_next ⟨rfl, rfl, rfl, Nat.le_refl _, fun _ _ _ => rfl⟩ (below_new _ _))
  have he : o + (16 * y + x) = o + y * 16 + x := by omega
  rw [he] at hi ⊢
  have hx' : (x : Int) < 16 := by omega
  have hy' : (y : Int) < 16 := by omega
  clear he
  go_enter Try.func136, Try.ntmps136
  go_wp2_with fail
  generalize (w.alloc (.cells #[.int .i64 (x : Int), .int .i64 (y : Int)] 134)) = u1 at *
  obtain ⟨Cc, Cf⟩ := C.open
  obtain ⟨Gc, Gf⟩ := G.open
  have hc1 : u1.cell? ⟨g, o + y * 16 + x, none⟩ = some cs[o + y * 16 + x] := by rw [Gc, Array.getElem?_eq_getElem hi]
  have hf1 := Gf (o + y * 16 + x)
  clear Gc Gf
  have HG := Lib.hid G; clear G hg
  go_still_tail 9, (by kernel_rfl)
  change wpList _ _ _ _ _ u1.drew
  have HB2 : Hid (w.grownBy u1.drew (some g)) := Lib.hid (grown_next HB.out (below_drew u1))
  replace HG : Hid (Blk u1.drew g cs t) := Lib.hid (HG.out.drewN 1)
  have hc2 : u1.drew.cell? ⟨g, o + y * 16 + x, none⟩ = some cs[o + y * 16 + x] := hc1
  have hf2 : u1.drew.frozen? ⟨g, o + y * 16 + x, none⟩ = false := hf1
  clear hc1 hf1
  generalize u1.drew = u2 at *
  go_wp2
  go_end0
  exact ⟨⟨_, rfl⟩, HG.out.set _ _, grown_set HB2.out _ _⟩

end Go.Proofs.Ytedfbaeajofmnaa

end
