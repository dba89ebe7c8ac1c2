/- Ranges over functions: the statement, one round, and code of a round that is walked as any other. Conditions: none beyond those of each theorem. -/
import Derived.Test.YtedfbaeajofmnabBu17
import Derived.Test.YtedfbaeajofmnabBu2
import Derived.RangeFuncIn
import Derived.RangeFuncRecord
import Derived.RangeFuncLeaves
import Derived.RangeFuncSeq
import Derived.RangeFuncNested
import Derived.OrdersIn
import Derived.TacticsIn
namespace Go.Proofs.Ytedfbaeajofmnab
open Go Go.RowKit
set_option linter.unusedVariables false

/-- nothing but the blocks of a set has changed -/
structure Keep (X : Nat → Prop) (W W' : World) : Prop where
  os : W'.os = W.os
  tape : W'.tape = W.tape
  output : W'.output = W.output
  size : W.heap.size ≤ W'.heap.size
  block : ∀ k, k < W.heap.size → ¬ X k → W'.heap[k]? = W.heap[k]?

section
variable {X : Nat → Prop} {W W' W'' : World}

theorem Keep.refl (X : Nat → Prop) (W : World) : Keep X W W := ⟨rfl, rfl, rfl, Nat.le_refl _, fun _ _ _ => rfl⟩
theorem Keep.trans (h : Keep X W W') (k : Keep X W' W'') : Keep X W W'' :=
  ⟨k.os.trans h.os, k.tape.trans h.tape, k.output.trans h.output, Nat.le_trans h.size k.size, fun i hi hx => (k.block i (Nat.lt_of_lt_of_le hi h.size) hx).trans (h.block i hi hx)⟩
theorem Keep.of_below (h : Below W.heap.size W W') : Keep X W W' := ⟨h.os, h.tape, h.output, h.size, fun i hi _ => h.block i hi⟩
theorem Keep.of_grown {r : Nat} (h : W.grownBy W' (some r)) (hr : X r) : Keep X W W' :=
  ⟨h.os, h.tape, h.output, h.size, fun i hi hx => h.block i hi (fun e => hx (by cases e; exact hr))⟩
theorem Keep.setCell (h : Keep X W W') {p : Addr} (hp : X p.block) (v : Value) : Keep X W (W'.setCell p v) :=
  h.trans ⟨rfl, rfl, rfl, by simp, fun k hk hx => heap_setCell_other W' p k v (fun e => hx (by rw [e]; exact hp))⟩
theorem Keep.putObj (h : Keep X W W') {l : Nat} (hl : X l) (o : Obj) : Keep X W (W'.putObj l o) :=
  h.trans ⟨rfl, rfl, rfl, by simp [World.putObj], fun k hk hx => World.putObj_heap_other (fun e => hx (by subst e; exact hl))⟩
theorem Keep.blk {g : Nat} {cs : Array Value} {t : TypeId} (h : Keep X W W') (hb : Blk W g cs t) (hg : ¬ X g) : Blk W' g cs t := (h.block g hb.lt hg).trans hb
theorem Keep.below {B : Nat} (h : Keep X W W') (hB : ∀ k, k < B → ¬ X k) (hs : B ≤ W.heap.size) : Below B W W' := ⟨h.os, h.tape, h.output, h.size, fun k hk => h.block k (by omega) (hB k hk)⟩
theorem Keep.own {B : Nat} {a : Option Addr} {vs : List Value} (h : Keep X W W') (ho : OwnV W B a vs) (ha : ∀ x, a = some x → ¬ X x.block) : OwnV W' B a vs := by
  rcases ho with ho | ⟨g, cs, e, rfl, hg, hc, hv⟩
  · exact .inl ho
  · exact .inr ⟨g, cs, e, rfl, hg, h.blk hc (ha _ rfl), hv⟩
theorem Keep.row {a : Option Addr} {vs : List Value} (h : Keep X W W') (ho : RowV W a vs) (ha : ∀ x, a = some x → ¬ X x.block) : RowV W' a vs := fun i u hu => by
  obtain ⟨b, off, rfl, hc⟩ := ho i u hu
  refine ⟨b, off, rfl, ?_⟩
  rw [World.cell?_of_block (w := W) (w' := W') (a := ⟨b, off + i, none⟩) (h.block b (lt_of_cell hc) (ha _ rfl))]
  exact hc
theorem Keep.more {Y : Nat → Prop} (h : Keep X W W') (hY : ∀ k, X k → Y k) : Keep Y W W' := ⟨h.os, h.tape, h.output, h.size, fun i hi hx => h.block i hi (fun e => hx (hY i e))⟩
end

/-- the record of a range -/
def recOf (fn : FuncId) (tmps : Array Value) (ps : Array Tmp) (assign body : Code) (D : Nat) (st : LoopState) (pe : Option Code) : Loop := { state := st, pending := pe, fn := fn, tmps := tmps, params := ps, assign := assign, body := body, defers := D }

section
variable {P : Program} {Q : Exit → Act → World → Prop} {a : Act} {w : World}

/-- THE STATEMENT: what is asked of the function that is ranged over. -/
theorem wp_range_start {g : Operand} {ps : Array Tmp} {assign body : Code} {gf : Nat} {lb : Array Value} (hg : a.eval g = .func (.func gf) #[] lb) (eg : ∀ args w, (callFunc gf args).run P w = .ok (.enter gf args) w)
    (h : ∀ (fn : FuncId) (L D : Nat) (W1 : World), L = w.heap.size + 1 → D = w.heap.size → W1 = (w.alloc (.deferred (some []))).alloc (.loop (recOf fn a.tmps ps assign body w.heap.size .ready none)) →
      Calls P gf (#[.func (.yield L) #[] #[]] ++ lb) W1 fun e W2 => ∃ v, e = .returned v ∧
        ((W2.heap[L]? = some (.loop (recOf fn a.tmps ps assign body D .ready none)) ∧ Q .normal { a with defers := { target := .collected D, args := #[] } :: a.defers } (W2.putObj L (.loop (recOf fn a.tmps ps assign body D .exhausted none)))) ∨
         ∃ c, W2.heap[L]? = some (.loop (recOf fn a.tmps ps assign body D .done (some c))) ∧ Code.wp P c Q { a with defers := { target := .collected D, args := #[] } :: a.defers } (W2.putObj L (.loop (recOf fn a.tmps ps assign body D .exhausted (some c)))))) :
    Code.wp P (Code.rangeFunc g ps assign body) Q a w := by
  refine (wpIn_wide (n := 0)).1 (wpIn_rangeFunc ?_)
  intro fn hfn
  obtain ⟨W1, hW1⟩ : ∃ W1, (w.alloc (.deferred (some []))).alloc (.loop (recOf fn a.tmps ps assign body w.heap.size .ready none)) = W1 := ⟨_, rfl⟩
  refine ⟨w.heap.size + 1, [{ target := .collected w.heap.size, args := #[] }], W1, { target := .fn (.func gf) lb, args := #[.func (.yield (w.heap.size + 1)) #[] #[]] }, W1, gf, #[.func (.yield (w.heap.size + 1)) #[] #[]] ++ lb, W1, ?_, ?_, ?_, ?_, fun hd => by simp [Fence.wide] at hd, ?_⟩
  · rw [← hW1]; exact run_enterLoop_outer _ _ _ _ _
  · simp only [resolve, hg]; simp [go_sem]
  · intro f' _; trivial
  · simp [invoke, go_sem, eg]
  · refine callsIn_wide.2 ((h fn _ _ W1 rfl rfl hW1.symm).mono ?_)
    rintro e W2 ⟨v, rfl, ⟨hl, hq⟩ | ⟨c, hl, hq⟩⟩
    · exact ⟨none, _, run_endLoop hl (by simp [recOf]), hq⟩
    · exact ⟨some c, _, run_endLoop hl (by simp [recOf]), wpIn_wide.2 hq⟩

/-- ONE ROUND, out of the walks of its assignments and of its body. -/
theorem round_ok {fn : FuncId} {tmps : Array Value} {ps : Array Tmp} {assign body : Code} {D L : Nat} {args : Array Value} {W : World} {R : Ending → World → Prop}
    (hl : W.heap[L]? = some (.loop (recOf fn tmps ps assign body D .ready none))) (hs : args.size = ps.size)
    (h : assign.wpIn (Fence.wide.inRound L) 0 P (Exit.then (fun a1 W1 => W1.heap[L]? = some (.loop (recOf fn tmps ps assign body D .ready none)) ∧
        body.wpIn (Fence.wide.inRound L) 0 P (fun e _ W3 => W3.heap[L]? = some (.loop (recOf fn tmps ps assign body D .busy none)) ∧ match e with
          | .normal => R (.returned (.bool true)) (W3.putObj L (.loop (recOf fn tmps ps assign body D .ready none)))
          | .ret => R (.returned (.bool false)) (W3.putObj L (.loop (recOf fn tmps ps assign body D .done (some .ret))))
          | .exit id => R (.returned (.bool false)) (W3.putObj L (.loop (recOf fn tmps ps assign body D .done (some (.exit id)))))
          | .goto t => R (.returned (.bool false)) (W3.putObj L (.loop (recOf fn tmps ps assign body D .done (some (.goto t)))))
          | _ => False) a1 (W1.putObj L (.loop (recOf fn tmps ps assign body D .busy none)))) (fun _ _ _ => False))
      { tmps := (ps.zip args).foldl (fun t (p, v) => t.setIfInBounds p v) tmps, defers := [] } W) : YieldAt Fence.wide 0 P L args W R := by
  refine ⟨fn, _, assign, body, run_yield hl hs, roundIn_of_wpIn trivial (wpIn_mono h ?_)⟩
  rintro e a1 W1 hq
  cases e with
  | normal =>
    obtain ⟨hl1, hb⟩ := hq
    refine ⟨_, run_beginRound hl1 (by simp [recOf]), wpIn_mono hb ?_⟩
    rintro e2 a2 W3 ⟨hl3, hr⟩
    cases e2 with
    | normal => exact ⟨_, _, run_endRound none hl3, hr⟩
    | ret => exact ⟨_, _, run_endRound (some .ret) hl3, hr⟩
    | exit id => exact ⟨_, _, run_endRound (some (.exit id)) hl3, hr⟩
    | goto t => exact ⟨_, _, run_endRound (some (.goto t)) hl3, hr⟩
    | panic c => exact hr.elim
    | outgrown => exact hr.elim
  | exit id => exact hq.elim
  | goto t => exact hq.elim
  | ret => exact hq.elim
  | panic c => exact hq.elim
  | outgrown => exact hq.elim
end

/-! ### Code of a round, walked as any other -/

def noDefer (o : Oper) : Bool := match o.op with | .defer _ => false | _ => true

section
variable {P : Program} {Q : Exit → Act → World → Prop} {ops : Array Oper} {l n : Nat}

theorem rowsIn_round {row : String} {args : Array Value} {w : World} {R : Value → World → Prop} (h : Rows P row args w R) : RowsIn (Fence.wide.inRound l) n P row args w R := fun c cs _ => by
  obtain ⟨v, w', hr, s⟩ := h c cs
  exact ⟨v, w', hr, stepsIn_wide.2 s⟩

theorem opIn_of_op {o : Oper} {a : Act} {w : World} {K : Act → World → Prop} (hd : noDefer o = true) (h : o.wp P a w K Q) : o.wpIn (Fence.wide.inRound l) n P a w K Q := by
  refine ⟨fun _ _ => trivial, ?_⟩
  have hs : o.semAt (Fence.wide.inRound l).round a.eval = execOp a.eval o := by
    rw [Fence.inRound_round]
    refine Oper.semAt_some _ _ _ ?_
    intro c hc
    unfold noDefer at hd
    rw [hc] at hd
    cases hd
  rw [hs]
  unfold Oper.wp at h
  generalize (execOp a.eval o).run P w = r at *
  cases r with
  | ok x w' =>
    cases x <;> simp only [Oper.upon] at h <;> simp only [Oper.uponIn] <;> first
      | exact h
      | exact h.elim
      | (refine ⟨fun hd => by simp [Fence.wide, Fence.inRound] at hd, ?_⟩; first | exact CallsIn.inRound l (callsIn_wide.2 h) | exact rowsIn_round h)
  | halt x w' => cases x <;> simp only [Oper.upon] at h <;> simp only [Oper.uponIn] <;> first | exact h | exact h.elim
theorem opIn_of_wpOp {i : Nat} {a : Act} {w : World} {K : Act → World → Prop} (hq : ¬ LetsOut Q) (hd : ∀ (j : Nat) (o : Oper), ops[j]? = some o → noDefer o = true) (h : wpOp P ops Q i K a w) : wpOpIn (Fence.wide.inRound l) n P ops Q i K a w := by
  unfold wpOp at h
  unfold wpOpIn
  cases ho : ops[i]? with
  | none => simp only [ho] at h; exact h
  | some o =>
    simp only [ho] at h
    dsimp only
    split
    · rename_i hw
      simp only [hw, if_true] at h
      rcases h with h | h
      · exact opIn_of_op (hd i o ho) h
      · exact absurd h.2 hq
    · rename_i hw
      simp only [hw, Bool.false_eq_true, if_false] at h
      exact ⟨fun _ _ => trivial, h⟩

theorem anyIn_of_any {md : Region.Mode} (hq : ¬ LetsOut Q) (hd : ∀ (j : Nat) (o : Oper), ops[j]? = some o → noDefer o = true) : ∀ (fuel : Nat) (listed : Array Bool) (a : Act) (w : World), wpAny P md ops Q fuel listed a w → wpAnyIn (Fence.wide.inRound l) n P md ops Q fuel listed a w
  | 0, _, _, _, h => h
  | fuel + 1, listed, a, w, h => ⟨h.1, fun i hi => wpOpIn_mono (fun a' w' h' => anyIn_of_any hq hd fuel _ a' w' h') (opIn_of_wpOp hq hd (h.2 i hi))⟩

theorem listIn_of_list (hq : ¬ LetsOut Q) : ∀ (l1 : List Oper) (a : Act) (w : World), (∀ o ∈ l1, noDefer o = true) → wpList P ops Q l1 a w → wpListIn (Fence.wide.inRound l) n P ops Q l1 a w
  | [], _, _, _, h => h
  | o :: rest, a, w, hd, h => by
    unfold wpList at h
    unfold wpListIn
    split
    · rename_i hw
      simp only [hw, if_true] at h
      rcases h with h | h
      · exact Oper.wpIn_mono (fun a' w' h' => listIn_of_list hq rest a' w' (fun o' ho' => hd o' (List.mem_cons_of_mem _ ho')) h') (opIn_of_op (hd o (List.mem_cons_self ..)) h)
      · exact absurd h.2 hq
    · rename_i hw
      simp only [hw, Bool.false_eq_true, if_false] at h
      exact ⟨fun _ _ => trivial, listIn_of_list hq rest _ w (fun o' ho' => hd o' (List.mem_cons_of_mem _ ho')) h⟩

theorem all_noDefer {l1 : List Oper} (h : l1.all noDefer = true) : ∀ o ∈ l1, noDefer o = true := List.all_eq_true.1 h
theorem all_noDefer_get {l1 : List Oper} (h : l1.all noDefer = true) : ∀ (j : Nat) (o : Oper), l1.toArray[j]? = some o → noDefer o = true := fun j o ho => by
  rw [List.getElem?_toArray] at ho
  exact List.all_eq_true.1 h o (List.mem_of_getElem? ho)

/-- a region of a round in one order -/
theorem in_region {id : Nat} {l1 : List Oper} {a : Act} {w : World} (hq : ¬ LetsOut Q) (hd : l1.all noDefer = true) (h : wpList P l1.toArray Q l1 a w) : (Code.region id l1.toArray false).wpIn (Fence.wide.inRound l) n P Q a w :=
  wpIn_region_lit (listIn_of_list hq l1 a w (all_noDefer hd) h)

/-- a region of a round that draws its order -/
theorem in_region_any {id : Nat} {l1 : List Oper} {a : Act} {w : World} (hm : P.follows .mixedOrders = true) (hq : ¬ LetsOut Q) (hd : l1.all noDefer = true) (h : wpAny P .any l1.toArray Q l1.toArray.size (Array.replicate l1.toArray.size false) a w.drew) : (Code.region id l1.toArray true).wpIn (Fence.wide.inRound l) n P Q a w :=
  wpIn_region_any hm (anyIn_of_any hq (all_noDefer_get hd) _ _ _ _ h)
end

/-! ### Walks of regions as orders, and the head of a list ahead of a call of yield -/

section
variable {P : Program} {C : World → Prop} {Sp : FuncId → Array Value → Value → Prop}

theorem wpAny_rel_tail {Q : Exit → Act → World → Prop} {a : Act} {w : World} {l : List Oper} (C : World → Prop) (Sp : FuncId → Array Value → Value → Prop) (n : Nat) (hB : Region.lexTailB .any l.toArray n = true) (hC : C w)
    (h : wpRel P l.toArray C Sp (fun a' => ∀ w', C w' → wpList P l.toArray Q (l.drop n) a' w') (l.take n) a) : wpAny P .any l.toArray Q l.toArray.size (Array.replicate l.toArray.size false) a w := by
  simp only [Region.lexTailB, Bool.and_eq_true, decide_eq_true_eq] at hB
  obtain ⟨⟨⟨⟨hsel, hn⟩, hs⟩, hc⟩, hlex⟩ := hB
  have hn' : n < l.length := by simpa using hn
  have htl : (l.take n).length = n := by simp; omega
  have hdl : (l.drop n).length = l.toArray.size - n := by simp
  have inv0 : HeadInv .any l.toArray n (Array.replicate l.toArray.size false) :=
    ⟨by simp, fun j oj _ hl => (by rw [getD_replicate_false] at hl; cases hl), fun t _ ht => getD_in (by simpa using ht) (getD_replicate_false _ _)⟩
  have H := anyRelL_lex (md := .any) (g := l.toArray.size - n) hsel hs hc hn hC (l.take n) 0 _ a (fun j hj => by
    have hj' : j < n := by rw [htl] at hj; exact hj
    simp [hj']) (by simpa using htl) inv0 (by rw [htl]; exact hlex) h
  have := wpAny_of_headRel (Q' := Q) (g := l.toArray.size - n) (fun listed a' w' hw' hL => by
    have := wpAny_of_seq (md := .any) (Q' := Q) (l.drop n) n listed a' w' (fun j => by simp [List.getElem?_drop]) (by rw [hdl]; exact hL.1) (hL.2 w' hw')
    rwa [hdl] at this) _ _ _ _ hC H
  rw [htl, show n + (l.toArray.size - n) = l.toArray.size by omega] at this
  exact this

theorem wpAny_relC {Q : Exit → Act → World → Prop} {a : Act} {w : World} {l : List Oper} (C : World → Prop) (Sp : FuncId → Array Value → Value → Prop) (hB : Region.lexB .any l.toArray = true) (hC : C w)
    (h : wpRel P l.toArray C Sp (fun a' => ∀ w', C w' → Q .normal a' w') l a) : wpAny P .any l.toArray Q l.toArray.size (Array.replicate l.toArray.size false) a w := by
  simp only [Region.lexB, Bool.and_eq_true] at hB
  refine wpAny_of_anyRel (C := C) (Sp := Sp) (Q := fun a' => ∀ w', C w' → Q .normal a' w') (fun _ w' hw' h => h w' hw') _ _ _ _ hC ?_
  have := anyRel_lex (P := P) (C := C) (Sp := Sp) (md := .any) hB.1 (w0 := w) hC l 0 (Array.replicate l.toArray.size false) a (by simp) (by simpa using hB.2) h
  simpa using this

end

section
variable {P : Program} {Q : Exit → Act → World → Prop} {ops : Array Oper} {n : Nat}

theorem wide_op {o : Oper} {a : Act} {w : World} {K : Act → World → Prop} (h : o.wp P a w K Q) : o.wpIn Fence.wide n P a w K Q := by
  refine ⟨fun _ _ => trivial, ?_⟩
  have hs : o.semAt Fence.wide.round a.eval = execOp a.eval o := Oper.semAt_none ..
  rw [hs]
  unfold Oper.wp at h
  generalize (execOp a.eval o).run P w = r at *
  cases r with
  | ok x w' =>
    cases x <;> simp only [Oper.upon] at h <;> simp only [Oper.uponIn] <;> first
      | exact h
      | exact h.elim
      | (refine ⟨fun hd => by simp [Fence.wide] at hd, ?_⟩; first | exact callsIn_wide.2 h | exact fun c cs _ => let ⟨v, w', hr, s⟩ := h c cs; ⟨v, w', hr, stepsIn_wide.2 s⟩)
  | halt x w' => cases x <;> simp only [Oper.upon] at h <;> simp only [Oper.uponIn] <;> first | exact h | exact h.elim

/-- what stands behind the head of a list -/
def behind (n : Nat) (P : Program) (ops : Array Oper) (Q : Exit → Act → World → Prop) (rest : List Oper) : Exit → Act → World → Prop
  | .normal, a, w => wpListIn Fence.wide n P ops Q rest a w
  | e, a, w => Q e a w

theorem wp_behind {rest : List Oper} {o : Oper} {a : Act} {w : World} {K : Act → World → Prop} (h : o.wp P a w K (behind n P ops Q rest)) : o.wp P a w K Q := by
  unfold Oper.wp at *
  generalize (execOp a.eval o).run P w = r at *
  cases r with
  | ok x w' =>
    cases x <;> simp only [Oper.upon] at h ⊢ <;> first
      | exact h
      | exact Calls.mono h (fun e w'' he => by cases e <;> first | exact he | (obtain ⟨a', w', h'⟩ := he; exact ⟨a', w', h'⟩))
  | halt x w' => cases x <;> simp only [Oper.upon] at h ⊢ <;> first | exact h | exact h.elim

theorem wide_head (hq : ¬ LetsOut Q) (rest : List Oper) : ∀ (l1 : List Oper) (a : Act) (w : World), wpList P ops (behind n P ops Q rest) l1 a w → wpListIn Fence.wide n P ops Q (l1 ++ rest) a w
  | [], _, _, h => h
  | o :: l1, a, w, h => by
    unfold wpList at h
    rw [List.cons_append]
    unfold wpListIn
    have hq' : ¬ LetsOut (behind n P ops Q rest) := fun ⟨a', w', h'⟩ => hq ⟨a', w', h'⟩
    split
    · rename_i hw
      simp only [hw, if_true] at h
      rcases h with h | h
      · have h1 := wide_op (n := n) (wp_behind (n := n) (ops := ops) (rest := rest) (Oper.wp_mono (fun a' w' h' => wide_head hq rest l1 a' w' h') h))
        exact h1
      · exact absurd h.2 hq'
    · rename_i hw
      simp only [hw, Bool.false_eq_true, if_false] at h
      exact ⟨fun _ _ => trivial, wide_head hq rest l1 _ w h⟩
end

theorem wide_head_n {P : Program} {Q : Exit → Act → World → Prop} {ops : Array Oper} {n : Nat} (k : Nat) (hq : ¬ LetsOut Q) {l : List Oper} {a : Act} {w : World} (h : wpList P ops (behind n P ops Q (l.drop k)) (l.take k) a w) : wpListIn Fence.wide n P ops Q l a w := by
  have := wide_head (n := n) hq (l.drop k) (l.take k) a w h
  rwa [List.take_append_drop] at this

section
variable {P : Program} {Q : Exit → Act → World → Prop} {a : Act} {w : World}

/-- THE STATEMENT, with what is known of the record and of the block for deferred calls -/
theorem wp_range_open {g : Operand} {ps : Array Tmp} {assign body : Code} {gf : Nat} {lb : Array Value} (hg : a.eval g = .func (.func gf) #[] lb) (eg : ∀ args w, (callFunc gf args).run P w = .ok (.enter gf args) w)
    (h : ∀ (fn : FuncId) (L D : Nat) (rc : LoopState → Option Code → Loop) (W1 : World), rc = recOf fn a.tmps ps assign body D → L = w.heap.size + 1 → D = w.heap.size → W1.heap.size = w.heap.size + 1 + 1 → W1.heap[L]? = some (.loop (rc .ready none)) → W1.heap[D]? = some (.deferred (some [])) → Below w.heap.size w W1 →
      Calls P gf (#[.func (.yield L) #[] #[]] ++ lb) W1 fun e W2 => ∃ v, e = .returned v ∧
        ((W2.heap[L]? = some (.loop (rc .ready none)) ∧ Q .normal { a with defers := { target := .collected D, args := #[] } :: a.defers } (W2.putObj L (.loop (rc .exhausted none)))) ∨
         ∃ c, W2.heap[L]? = some (.loop (rc .done (some c))) ∧ Code.wp P c Q { a with defers := { target := .collected D, args := #[] } :: a.defers } (W2.putObj L (.loop (rc .exhausted (some c)))))) :
    Code.wp P (Code.rangeFunc g ps assign body) Q a w := by
  refine wp_range_start hg eg fun fn L D W1 hL hD hW => ?_
  refine h fn L D _ W1 rfl hL hD (by rw [hW]; simp) ?_ ?_ (by rw [hW]; exact ((Below.refl _ w).alloc (Nat.le_refl _) _).alloc (by simp) _)
  · rw [hW, hL, hD, ← World.size_alloc w (.deferred (some []))]; exact heap_alloc_new _ _
  · rw [hW, hD]
    have h1 : (w.alloc (.deferred (some []))).heap[w.heap.size]? = some (.deferred (some [])) := heap_alloc_new _ _
    exact (Below.heap_alloc (w.alloc (.deferred (some []))) _ _ (by simp)).trans h1

theorem round_open {fn : FuncId} {tmps : Array Value} {ps : Array Tmp} {assign body : Code} {D L : Nat} {args : Array Value} {W : World} {R : Ending → World → Prop} {rc : LoopState → Option Code → Loop} (hrc : rc = recOf fn tmps ps assign body D)
    (hl : W.heap[L]? = some (.loop (rc .ready none))) (hs : args.size = ps.size)
    (h : assign.wpIn (Fence.wide.inRound L) 0 P (Exit.then (fun a1 W1 => W1.heap[L]? = some (.loop (rc .ready none)) ∧
        body.wpIn (Fence.wide.inRound L) 0 P (fun e _ W3 => W3.heap[L]? = some (.loop (rc .busy none)) ∧ match e with
          | .normal => R (.returned (.bool true)) (W3.putObj L (.loop (rc .ready none)))
          | .ret => R (.returned (.bool false)) (W3.putObj L (.loop (rc .done (some .ret))))
          | .exit id => R (.returned (.bool false)) (W3.putObj L (.loop (rc .done (some (.exit id)))))
          | .goto t => R (.returned (.bool false)) (W3.putObj L (.loop (rc .done (some (.goto t)))))
          | _ => False) a1 (W1.putObj L (.loop (rc .busy none)))) (fun _ _ _ => False))
      { tmps := (ps.zip args).foldl (fun t (p, v) => t.setIfInBounds p v) tmps, defers := [] } W) : YieldAt Fence.wide 0 P L args W R := by
  subst hrc
  exact round_ok hl hs h
end

section
variable {W : World} {L : Nat} {o : Obj}
theorem Blk.putObj {g : Nat} {cs : Array Value} {t : TypeId} (h : Blk W g cs t) (hg : g ≠ L) : Blk (W.putObj L o) g cs t := (World.putObj_heap_other hg).trans h
theorem grown_putObj (W : World) (L : Nat) (o : Obj) : W.grownBy (W.putObj L o) (some L) := ⟨rfl, rfl, rfl, by simp [World.putObj], fun k _ hk => World.putObj_heap_other (fun e => hk (by rw [e]))⟩
theorem putObj_same (h : L < W.heap.size) : (W.putObj L o).heap[L]? = some o := by
  unfold World.putObj
  rw [Array.getElem?_setIfInBounds_self_of_lt h]
end

end Go.Proofs.Ytedfbaeajofmnab
