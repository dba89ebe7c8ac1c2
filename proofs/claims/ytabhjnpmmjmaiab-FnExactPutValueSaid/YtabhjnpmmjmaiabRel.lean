/- Regions whose order is open and whose operations may leave one of several values (a NaN of open bits): one walk in the order of the text serves every order, if it goes through for every value that an operation may leave. Conditions: those of wp_region_rel. -/
import Derived.Test.YtabhjnpmmjmaiabFl2
import Derived.Deep.QuietTactic
import Derived.BigQuiet
namespace Go.Proofs.Ytabhjnpmmjmaiab
open Go

section
variable {P : Program} {ops : Array Oper} {md : Region.Mode} {C : World → Prop} {Sp : FuncId → Array Value → Value → Prop}

/-- a value that the operation may leave, from some world of the class; of a call: one that the calls' specification lets -/
def leaves (P : Program) (C : World → Prop) (Sp : FuncId → Array Value → Value → Prop) (x : Sem Next) (v : Value) : Prop :=
  ∃ w, C w ∧ match x.run P w with
    | .ok (.value u) _ => u = v
    | .ok .skip _ => undef = v
    | .ok (.enter f args) _ => Sp f args v
    | _ => False

/-- from every world of the class the operation leaves a value and a world of the class -/
def sureUpon (P : Program) (C : World → Prop) (Sp : FuncId → Array Value → Value → Prop) : Result Next → Prop
  | .ok (.value _) w' => C w'
  | .ok .skip w' => C w'
  | .ok (.enter f args) w' => Calls P f args w' fun e w'' => ∃ v, e = .returned v ∧ Sp f args v ∧ C w''
  | _ => False

def sure (P : Program) (C : World → Prop) (Sp : FuncId → Array Value → Value → Prop) (x : Sem Next) : Prop :=
  ∀ w, C w → sureUpon P C Sp (x.run P w)

theorem leaves_some {x : Sem Next} (h : sure P C Sp x) {w : World} (hw : C w) : ∃ v, leaves P C Sp x v := by
  have := h w hw
  cases hr : x.run P w with
  | halt x w' => rw [hr] at this; exact this.elim
  | ok n w' =>
    rw [hr] at this
    cases n with
    | value u => exact ⟨u, w, hw, by rw [hr]⟩
    | skip => exact ⟨undef, w, hw, by rw [hr]⟩
    | enter f args =>
      obtain ⟨e, w'', _, ⟨v, _, hv, _⟩, _⟩ := this []
      exact ⟨v, w, hw, by rw [hr]; exact hv⟩
    | _ => exact this.elim

/-- one operation -/
def relOp (P : Program) (C : World → Prop) (Sp : FuncId → Array Value → Value → Prop) (o : Oper) (a : Act) (K : Act → Prop) : Prop :=
  sure P C Sp (execOp a.eval o) ∧ ∀ v, leaves P C Sp (execOp a.eval o) v → K (a.put o.dst v)

/-- the walk in the order of the text -/
def wpRel (P : Program) (ops : Array Oper) (C : World → Prop) (Sp : FuncId → Array Value → Value → Prop) (Q : Act → Prop) : List Oper → Act → Prop
  | [], a => Q a
  | o :: rest, a => if Region.wanted o (yielded ops a.tmps) then relOp P C Sp o a (wpRel P ops C Sp Q rest) else wpRel P ops C Sp Q rest (a.put o.dst undef)

def nthRel (P : Program) (ops : Array Oper) (C : World → Prop) (Sp : FuncId → Array Value → Value → Prop) (i : Nat) (K : Act → Prop) (a : Act) : Prop :=
  match ops[i]? with
  | none => K a
  | some o => if Region.wanted o (yielded ops a.tmps) then relOp P C Sp o a K else K (a.put o.dst undef)

/-- whatever order is picked -/
def anyRel (P : Program) (md : Region.Mode) (ops : Array Oper) (C : World → Prop) (Sp : FuncId → Array Value → Value → Prop) (Q : Act → Prop) : Nat → Array Bool → Act → Prop
  | 0, listed, a => Region.ready md ops listed = [] ∧ Q a
  | fuel + 1, listed, a =>
    (Region.ready md ops listed = [] → Q a) ∧
    ∀ i ∈ Region.ready md ops listed, nthRel P ops C Sp i (anyRel P md ops C Sp Q fuel (listed.setIfInBounds i true)) a

theorem wp_of_relOp {o : Oper} {a : Act} {K : Act → Prop} {K' : Act → World → Prop} {Q' : Exit → Act → World → Prop} {w : World} (hw : C w) (h : ∀ a w', C w' → K a → K' a w') (hh : relOp P C Sp o a K) : o.wp P a w K' Q' := by
  obtain ⟨h1, h2⟩ := hh
  have h3 := h1 w hw
  have h4 := fun v => h2 v
  unfold Oper.wp
  cases hr : (execOp a.eval o).run P w with
  | halt x w' => rw [hr] at h3; exact h3.elim
  | ok n w' =>
    rw [hr] at h3
    cases n with
    | value u => exact h _ _ h3 (h4 u ⟨w, hw, by rw [hr]⟩)
    | skip => exact h _ _ h3 (h4 undef ⟨w, hw, by rw [hr]⟩)
    | enter f args =>
      refine Calls.mono h3 fun e w'' ⟨v, he, hv, hc⟩ => ?_
      subst he
      exact h _ _ hc (h4 v ⟨w, hw, by rw [hr]; exact hv⟩)
    | _ => exact h3.elim

theorem wpAny_of_anyRel {Q : Act → Prop} {Q' : Exit → Act → World → Prop} (hQ : ∀ a w, C w → Q a → Q' .normal a w) : ∀ (fuel : Nat) (listed : Array Bool) (a : Act) (w : World), C w →
    anyRel P md ops C Sp Q fuel listed a → wpAny P md ops Q' fuel listed a w
  | 0, _, _, _, hw, h => ⟨h.1, hQ _ _ hw h.2⟩
  | fuel + 1, listed, a, w, hw, h => ⟨fun h0 => hQ _ _ hw (h.1 h0), fun i hi => by
      have hh := h.2 i hi
      unfold nthRel at hh
      unfold wpOp
      cases ho : ops[i]? with
      | none =>
        simp only [ho] at hh
        exact wpAny_of_anyRel hQ fuel _ _ _ hw hh
      | some o =>
        simp only [ho] at hh
        dsimp only
        split
        · rename_i hwn
          simp only [hwn, if_true] at hh
          exact .inl (wp_of_relOp hw (fun a' w' hw' => wpAny_of_anyRel hQ fuel _ a' w' hw') hh)
        · rename_i hwn
          simp only [hwn, Bool.false_eq_true, if_false] at hh
          exact wpAny_of_anyRel hQ fuel _ _ _ hw hh⟩

/-- what an operation may leave in this frame, wanted or not -/
def mayLeave (P : Program) (ops : Array Oper) (C : World → Prop) (Sp : FuncId → Array Value → Value → Prop) (o : Oper) (a : Act) (V : Value → Prop) : Prop :=
  (Region.wanted o (yielded ops a.tmps) = true ∧ sure P C Sp (execOp a.eval o) ∧ V = leaves P C Sp (execOp a.eval o)) ∨ (Region.wanted o (yielded ops a.tmps) = false ∧ V = fun v => v = undef)

theorem mayLeave.nth {i : Nat} {o : Oper} {a : Act} {V : Value → Prop} (hi : ops[i]? = some o) (hy : mayLeave P ops C Sp o a V) {K : Act → Prop} (h : ∀ v, V v → K (a.put o.dst v)) : nthRel P ops C Sp i K a := by
  unfold nthRel
  simp only [hi]
  rcases hy with ⟨hw, hs, rfl⟩ | ⟨hw, rfl⟩
  · simp only [hw, if_true]; exact ⟨hs, h⟩
  · simp only [hw, Bool.false_eq_true, if_false]; exact h undef rfl

theorem mayLeave.some {o : Oper} {a : Act} {V : Value → Prop} (hy : mayLeave P ops C Sp o a V) {w : World} (hw : C w) : ∃ v, V v := by
  rcases hy with ⟨_, hs, rfl⟩ | ⟨_, rfl⟩
  · exact leaves_some hs hw
  · exact ⟨undef, rfl⟩

theorem mayLeave.put {o : Oper} {a : Act} {V : Value → Prop} {d : Option Tmp} {u : Value} (hs : ∀ cs b, o.op ≠ .select cs b) (h : ∀ t, d = Option.some t → t ∉ o.looksAt ops) (hy : mayLeave P ops C Sp o a V) : mayLeave P ops C Sp o (a.put d u) V := by
  unfold mayLeave at *
  rw [wanted_put o a d u h, execOp_put o hs a d u h]
  exact hy

/-- an operation that may come up now may be taken first -/
theorem anyRel_first {Q : Act → Prop} {i : Nat} {oi : Oper} {V : Value → Prop} (hi : ops[i]? = some oi) (hsel : ∀ (j : Nat) (o : Oper) cs b, ops[j]? = some o → o.op ≠ .select cs b) {w0 : World} (hw0 : C w0) :
    ∀ (fuel : Nat) (listed : Array Bool) (a : Act),
      (∀ j oj, ops[j]? = some oj → j ≠ i → listed.getD j true = false → (∀ e ∈ oj.after, Region.binds md e = true → e.on ≠ i) → oi.apart ops oj = true) →
      i ∈ Region.ready md ops listed → mayLeave P ops C Sp oi a V →
      (∀ v, V v → anyRel P md ops C Sp Q fuel (listed.setIfInBounds i true) (a.put oi.dst v)) → anyRel P md ops C Sp Q (fuel + 1) listed a
  | 0, listed, a, _, hr, hy, H => by
    refine ⟨fun h => (by rw [h] at hr; cases hr), fun j hj => ?_⟩
    by_cases hji : j = i
    · subst hji; exact hy.nth hi H
    · obtain ⟨v, hv⟩ := hy.some hw0
      have := ready_mono hj hji
      rw [(H v hv).1] at this
      cases this
  | fuel + 1, listed, a, hfree, hr, hy, H => by
    refine ⟨fun h => (by rw [h] at hr; cases hr), fun j hj => ?_⟩
    by_cases hji : j = i
    · subst hji; exact hy.nth hi H
    · obtain ⟨hjun, oj, hoj, hall⟩ := mem_ready.1 hj
      have hnot : ∀ e ∈ oj.after, Region.binds md e = true → e.on ≠ i := fun e he hb heq => by
        have h1 := hall e he hb
        have h0 := (mem_ready.1 hr).1
        rw [heq] at h1
        rcases Nat.lt_or_ge i listed.size with h' | h'
        · simp [h'] at h0 h1; rw [h0] at h1; cases h1
        · simp [Array.getElem?_eq_none h'] at h1
      obtain ⟨ap1, ap2, ap3⟩ := Oper.apart_spec (hfree j oj hoj hji hjun hnot)
      have hfree' : ∀ k ok, ops[k]? = some ok → k ≠ i → (listed.setIfInBounds j true).getD k true = false →
          (∀ e ∈ ok.after, Region.binds md e = true → e.on ≠ i) → oi.apart ops ok = true := fun k ok hk hki hun hno => by
        refine hfree k ok hk hki ?_ hno
        by_cases hjk : j = k
        · subst hjk; exact hjun
        · rw [getD_set_ne true hjk] at hun; exact hun
      have step : ∀ v, V v → nthRel P ops C Sp j (anyRel P md ops C Sp Q fuel ((listed.setIfInBounds i true).setIfInBounds j true)) (a.put oi.dst v) := fun v hv => (H v hv).2 j (ready_mono hj hji)
      have rest : ∀ u, (∀ v, V v → anyRel P md ops C Sp Q fuel ((listed.setIfInBounds i true).setIfInBounds j true) ((a.put oi.dst v).put oj.dst u)) → anyRel P md ops C Sp Q (fuel + 1) (listed.setIfInBounds j true) (a.put oj.dst u) := fun u hu => by
        refine anyRel_first hi hsel hw0 fuel (listed.setIfInBounds j true) (a.put oj.dst u) hfree' (ready_mono hr (Ne.symm hji)) (hy.put (fun cs b => hsel i oi cs b hi) ap3) fun v hv => ?_
        have := hu v hv
        rw [Array.setIfInBounds_comm _ _ hji, ← Act.put_comm a v u ap2]
        exact this
      unfold nthRel at step ⊢
      simp only [hoj] at step ⊢
      obtain ⟨v0, hv0⟩ := hy.some hw0
      have hwd : ∀ v, Region.wanted oj (yielded ops (a.put oi.dst v).tmps) = Region.wanted oj (yielded ops a.tmps) := fun v => wanted_put oj a oi.dst v ap1
      have hex : ∀ v, execOp (a.put oi.dst v).eval oj = execOp a.eval oj := fun v => execOp_put oj (fun cs b => hsel j oj cs b hoj) a oi.dst v ap1
      by_cases hw : Region.wanted oj (yielded ops a.tmps) = true
      · rw [if_pos hw]
        have st : ∀ v, V v → relOp P C Sp oj (a.put oi.dst v) (anyRel P md ops C Sp Q fuel ((listed.setIfInBounds i true).setIfInBounds j true)) := fun v hv => by
          have := step v hv
          rw [if_pos ((hwd v).trans hw)] at this
          exact this
        refine ⟨?_, fun u hu => rest u fun v hv => ?_⟩
        · have := (st v0 hv0).1
          rw [hex v0] at this
          exact this
        · refine (st v hv).2 u ?_
          rw [hex v]; exact hu
      · rw [if_neg hw]
        refine rest undef fun v hv => ?_
        have := step v hv
        rw [if_neg (by rw [hwd v]; exact hw)] at this
        exact this

theorem anyRel_lex {Q : Act → Prop} (hs : Region.noSelect ops = true) {w0 : World} (hw0 : C w0) : ∀ (l : List Oper) (k : Nat) (listed : Array Bool) (a : Act), (∀ j, l[j]? = ops[k + j]?) →
    Region.lexFrom md ops l.length k listed = true → wpRel P ops C Sp Q l a → anyRel P md ops C Sp Q l.length listed a
  | [], _, _, _, _, hB, h => ⟨by simpa [Region.lexFrom] using hB, h⟩
  | o :: l, k, listed, a, hl, hB, h => by
    have h0 : ops[k]? = some o := by simpa using (hl 0).symm
    simp only [List.length_cons, Region.lexFrom, Bool.and_eq_true] at hB
    obtain ⟨⟨hr, hf⟩, hB'⟩ := hB
    have hl' : ∀ j, l[j]? = ops[k + 1 + j]? := fun j => by have := hl (j + 1); simpa [Nat.add_assoc, Nat.add_comm 1 j] using this
    unfold wpRel at h
    by_cases hw : Region.wanted o (yielded ops a.tmps) = true
    · rw [if_pos hw] at h
      exact anyRel_first h0 (Region.noSelect_spec hs) hw0 l.length listed a (Region.free_spec h0 hf) (by simpa using hr) (.inl ⟨hw, h.1, rfl⟩)
        fun v hv => anyRel_lex hs hw0 l (k + 1) _ _ hl' hB' (h.2 v hv)
    · rw [if_neg hw] at h
      refine anyRel_first h0 (Region.noSelect_spec hs) hw0 l.length listed a (Region.free_spec h0 hf) (by simpa using hr) (.inr ⟨by simpa using hw, rfl⟩) fun v hv => ?_
      rw [hv]
      exact anyRel_lex hs hw0 l (k + 1) _ _ hl' hB' h

/-- ONE WALK FOR EVERY ORDER, in the worlds that are w but for draws. -/
theorem wp_region_rel {id : Nat} {Q : Exit → Act → World → Prop} {a : Act} {w : World} {l : List Oper} (hm : P.follows .mixedOrders = true) (hB : Region.lexB .any l.toArray = true)
    (h : wpRel P l.toArray (fun w' => ∃ n, w' = w.drewN n) Sp (fun a' => ∀ w', (∃ n, w' = w.drewN n) → Q .normal a' w') l a) : (Code.region id l.toArray true).wp P Q a w := by
  simp only [Region.lexB, Bool.and_eq_true] at hB
  refine wp_region_any hm (wpAny_of_anyRel (C := fun w' => ∃ n, w' = w.drewN n) (Sp := Sp) (Q := fun a' => ∀ w', (∃ n, w' = w.drewN n) → Q .normal a' w') (fun _ w' hw' h => h w' hw') _ _ _ _ ⟨1, rfl⟩ ?_)
  have := anyRel_lex (P := P) (C := fun w' => ∃ n, w' = w.drewN n) (Sp := Sp) (md := .any) hB.1 (w0 := w) ⟨0, rfl⟩ l 0 (Array.replicate l.toArray.size false) a (by simp) (by simpa using hB.2) h
  simpa using this

/-! ### The steps -/

theorem wpRel_nil {Q : Act → Prop} {a : Act} (h : Q a) : wpRel P ops C Sp Q [] a := h

theorem wpRel_skip {Q : Act → Prop} {a : Act} {o : Oper} {rest : List Oper} (hw : Region.wanted o (yielded ops a.tmps) = false) (h : wpRel P ops C Sp Q rest (a.put o.dst undef)) : wpRel P ops C Sp Q (o :: rest) a := by
  unfold wpRel; rw [hw]; exact h

theorem wpRel_want {Q : Act → Prop} {a : Act} {o : Oper} {rest : List Oper} (hw : Region.wanted o (yielded ops a.tmps) = true) (h : relOp P C Sp o a (wpRel P ops C Sp Q rest)) : wpRel P ops C Sp Q (o :: rest) a := by
  unfold wpRel; rw [hw]; exact h

/-- operations that call no function of the program -/
def plainOp : Op → Bool
  | .move _ | .assign _ | .pick .. | .load .. | .binOp .. | .unOp .. | .convert .. | .index .. | .indexAddr .. | .field .. | .fieldAddr .. | .extract .. | .slice .. => true
  | .call c => match c.callee with
    | .builtin .len | .builtin .cap | .builtin .real | .builtin .imag | .builtin .complex | .builtin .min | .builtin .max => true
    | _ => false
  | _ => false

theorem value_no_enter {x : Sem Value} {w w' : World} {f : FuncId} {args : Array Value} : (do pure (Next.value (← x)) : Sem Next).run P w ≠ .ok (.enter f args) w' := by
  rw [Sem.run_bind]
  cases x.run P w with
  | halt _ _ => intro h; cases h
  | ok v w1 => intro h; cases h

theorem plain_no_enter {o : Oper} (h : plainOp o.op = true) {r : Operand → Value} {w w' : World} {f : FuncId} {args : Array Value} : (execOp r o).run P w ≠ .ok (.enter f args) w' := by
  obtain ⟨dst, op, ty, pos, after, guard⟩ := o
  cases op <;> first | (cases h; done) | skip
  case move x => intro h; cases h
  case assign x => intro h; cases h
  case pick c x y =>
    unfold execOp
    simp only [Sem.run_bind]
    cases (asBool (r c)).run P w with
    | halt _ _ => intro h; cases h
    | ok v w1 => intro h; cases h
  case call c =>
    obtain ⟨callee, xs, ats⟩ := c
    cases callee <;> first | (cases h; done) | skip
    rename_i b
    cases b <;> first | (cases h; done) | skip
    all_goals exact value_no_enter
  all_goals exact value_no_enter

/-- an operation that leaves one value, and the world as it was -/
theorem rel_of_quiet {o : Oper} {a : Act} {K : Act → Prop} (hp : plainOp o.op = true) (h : o.quiet P a C K) : relOp P C Sp o a K := by
  obtain ⟨v, h1, h2⟩ := h
  refine ⟨fun w hw => ?_, fun u hu => ?_⟩
  · have := h1 w hw
    unfold Oper.quietAt at this
    cases hr : (execOp a.eval o).run P w with
    | halt x w' => rw [hr] at this; exact this.elim
    | ok n w' =>
      rw [hr] at this
      cases n with
      | value u => rw [show w' = w from this.1]; exact hw
      | skip => rw [show w' = w from this.1]; exact hw
      | enter f args => exact absurd hr (plain_no_enter hp)
      | _ => exact this.elim
  · obtain ⟨w, hw, hm⟩ := hu
    have := h1 w hw
    unfold Oper.quietAt at this
    cases hr : (execOp a.eval o).run P w with
    | halt x w' => rw [hr] at this; exact this.elim
    | ok n w' =>
      rw [hr] at this hm
      cases n with
      | value z => rw [← (show z = u from hm), show z = v from this.2]; exact h2
      | skip => rw [← (show undef = u from hm), ← show v = undef from this.2]; exact h2
      | enter f args => exact absurd hr (plain_no_enter hp)
      | _ => exact this.elim

theorem wpRel_plain {Q : Act → Prop} {a : Act} {o : Oper} {rest : List Oper} (hw : Region.wanted o (yielded ops a.tmps) = true) (hp : plainOp o.op = true)
    (h : ∀ K : Act → Prop, (∀ a, wpRel P ops C Sp Q rest a → K a) → o.quiet P a C K) : wpRel P ops C Sp Q (o :: rest) a :=
  wpRel_want hw (rel_of_quiet hp (h _ fun _ h => h))
end

section
variable {P : Program} {ops : Array Oper} {Sp : FuncId → Array Value → Value → Prop} {w0 : World} {Q : Act → Prop} {a : Act} {rest : List Oper}

/-- an operation whose value is known up to a NaN's bits -/
theorem rel_of_run {o : Oper} {K : Act → Prop} (k : FloatKind) (S : Option Nat)
    (h : ∀ n, ∃ v m, (execOp a.eval o).run P (w0.drewN n) = .ok (.value (.float k v)) ((w0.drewN n).drewN m) ∧ canon k v = S ∧ v < 2 ^ k.format.width)
    (hk : ∀ v, canon k v = S → v < 2 ^ k.format.width → K (a.put o.dst (.float k v))) : relOp P (fun w' => ∃ n, w' = w0.drewN n) Sp o a K := by
  refine ⟨fun w hw => ?_, fun u hu => ?_⟩
  · obtain ⟨n, rfl⟩ := hw
    obtain ⟨v, m, hr, _⟩ := h n
    rw [hr]
    exact ⟨n + m, World.drewN_drewN ..⟩
  · obtain ⟨w, ⟨n, rfl⟩, hm⟩ := hu
    obtain ⟨v, m, hr, hc, hl⟩ := h n
    rw [hr] at hm
    rw [← (show Value.float k v = u from hm)]
    exact hk v hc hl

/-- the value is written as a constant would be -/
theorem put_of_quiet {dst : Option Tmp} {ty : TypeId} {pos : String} {after : Array Edge} {guard : Option (Nat × Bool)} {v : Value} {C : World → Prop} {Q' : Act → Prop} {w : World} (hw : C w)
    (h : ∀ K : Act → Prop, (∀ a, Q' a → K a) → Oper.quiet P { dst := dst, op := .assign (.const v), type := ty, pos := pos, after := after, guard := guard } a C K) : Q' (a.put dst v) := by
  obtain ⟨u, h1, h2⟩ := h Q' fun _ h => h
  have := h1 w hw
  unfold Oper.quietAt at this
  rw [← (show v = u from this.2)] at h2
  exact h2

theorem wpRel_arith {dst : Option Tmp} {ty : TypeId} {pos : String} {after : Array Edge} {guard : Option (Nat × Bool)} {op : BinOp} {t t2 : TypeId} {x y : Operand}
    (hw : Region.wanted { dst := dst, op := .binOp op t x y t2, type := ty, pos := pos, after := after, guard := guard } (yielded ops a.tmps) = true) (hop : isArith op = true) (k : FloatKind) (p q : Nat) (hx : a.eval x = .float k p) (hy : a.eval y = .float k q)
    (h : ∀ v, canon k v = fop op k (canon k p) (canon k q) → v < 2 ^ k.format.width → ∀ K : Act → Prop, (∀ a, wpRel P ops (fun w' => ∃ n, w' = w0.drewN n) Sp Q rest a → K a) →
      Oper.quiet P { dst := dst, op := .assign (.const (.float k v)), type := ty, pos := pos, after := after, guard := guard } a (fun w' => ∃ n, w' = w0.drewN n) K) :
    wpRel P ops (fun w' => ∃ n, w' = w0.drewN n) Sp Q ({ dst := dst, op := .binOp op t x y t2, type := ty, pos := pos, after := after, guard := guard } :: rest) a := by
  refine wpRel_want hw (rel_of_run k (fop op k (canon k p) (canon k q)) (fun n => ?_) fun v h1 h2 => put_of_quiet (w := w0) ⟨0, rfl⟩ (h v h1 h2))
  have hop' := isArith_or hop
  obtain ⟨v, m, hr, hc, hv⟩ := run_arith_any (P := P) (w0.drewN n) op hop' k p q
  refine ⟨v, m, ?_, hc, hv⟩
  unfold execOp
  have e : binOp op t (.float k p) (.float k q) = Op.floatArith op k p q := by rcases hop' with rfl | rfl | rfl | rfl <;> simp [binOp]
  have g : eqGuard op t x y (.float k p) (.float k q) = pure () := by rcases hop' with rfl | rfl | rfl | rfl <;> rfl
  simp only [hx, hy, g, e, Sem.run_bind, Sem.run_pure, Result.andThen_ok, hr]

theorem wpRel_conv {dst : Option Tmp} {ty : TypeId} {pos : String} {after : Array Edge} {guard : Option (Nat × Bool)} {t t2 : TypeId} {x : Operand}
    (hw : Region.wanted { dst := dst, op := .convert t t2 x, type := ty, pos := pos, after := after, guard := guard } (yielded ops a.tmps) = true) (src kd : FloatKind) (hne : src ≠ kd) (p : Nat) (hx : a.eval x = .float src p) (hs : P.underlying t = some (.float src)) (hd : P.underlying t2 = some (.float kd))
    (hb : p < 2 ^ src.format.width) (hf : fits src kd p)
    (h : ∀ v, canon kd v = fconv src kd (canon src p) → v < 2 ^ kd.format.width → ∀ K : Act → Prop, (∀ a, wpRel P ops (fun w' => ∃ n, w' = w0.drewN n) Sp Q rest a → K a) →
      Oper.quiet P { dst := dst, op := .assign (.const (.float kd v)), type := ty, pos := pos, after := after, guard := guard } a (fun w' => ∃ n, w' = w0.drewN n) K) :
    wpRel P ops (fun w' => ∃ n, w' = w0.drewN n) Sp Q ({ dst := dst, op := .convert t t2 x, type := ty, pos := pos, after := after, guard := guard } :: rest) a := by
  refine wpRel_want hw (rel_of_run kd (fconv src kd (canon src p)) (fun n => ?_) fun v h1 h2 => put_of_quiet (w := w0) ⟨0, rfl⟩ (h v h1 h2))
  obtain ⟨v, m, hr, hc, hv⟩ := run_conv_any (P := P) (w0.drewN n) src kd hne p hb hf
  refine ⟨v, m, ?_, hc, hv⟩
  unfold execOp
  have e : (convert t t2 (.float src p)).run P (w0.drewN n) = .ok (.float kd v) ((w0.drewN n).drewN m) := by
    simp [convert, run_underlying hs, run_underlying hd, hr]
  simp only [hx, Sem.run_bind, Sem.run_pure, Result.andThen_ok, e]

theorem run_call_func {o : Oper} {f : FuncId} {fn : Func} {w : World} {r : Operand → Value} {x : Operand} {xs : Array Operand} {ats : Array TypeId} (ho : o.op = .call { callee := .value x, args := xs, argTypes := ats }) (hx : r x = .func (.func f) #[] #[])
    (hf : P.funcs[f]? = some fn) (hn : (fn.name == "runtime.NumGoroutine") = false) (hb : fn.body.isNone = false) : (execOp r o).run P w = .ok (.enter f (xs.map r)) w := by
  unfold execOp
  have h1 : fn.name ≠ "runtime.NumGoroutine" := by simpa using hn
  have h2 : fn.body ≠ none := fun e => by rw [e] at hb; cases hb
  simp [ho, resolve, hx, Deferred.ofValue, invoke, callFunc, hf, h1, h2]

/-- a call: its contract in every world of the class gives what its specification lets -/
theorem wpRel_call {dst : Option Tmp} {ty : TypeId} {pos : String} {after : Array Edge} {guard : Option (Nat × Bool)} {x : Operand} {xs : Array Operand} {ats : Array TypeId}
    (hw : Region.wanted { dst := dst, op := .call { callee := .value x, args := xs, argTypes := ats }, type := ty, pos := pos, after := after, guard := guard } (yielded ops a.tmps) = true) (f : FuncId) (fn : Func) (hx : a.eval x = .func (.func f) #[] #[])
    (hf : P.funcs[f]? = some fn) (hn : (fn.name == "runtime.NumGoroutine") = false) (hb : fn.body.isNone = false) (al : List Value) (ha : xs.toList.map a.eval = al)
    (hc : ∀ n, Calls P f al.toArray (w0.drewN n) fun e w'' => ∃ v, e = .returned v ∧ Sp f al.toArray v ∧ ∃ m, w'' = w0.drewN m)
    (h : ∀ v, Sp f al.toArray v → ∀ K : Act → Prop, (∀ a, wpRel P ops (fun w' => ∃ n, w' = w0.drewN n) Sp Q rest a → K a) →
      Oper.quiet P { dst := dst, op := .assign (.const v), type := ty, pos := pos, after := after, guard := guard } a (fun w' => ∃ n, w' = w0.drewN n) K) :
    wpRel P ops (fun w' => ∃ n, w' = w0.drewN n) Sp Q ({ dst := dst, op := .call { callee := .value x, args := xs, argTypes := ats }, type := ty, pos := pos, after := after, guard := guard } :: rest) a := by
  have ha' : xs.map a.eval = al.toArray := by rw [← ha, ← Array.toList_map]
  rw [← ha'] at hc h
  refine wpRel_want hw ⟨fun w hw => ?_, fun u hu => ?_⟩
  · obtain ⟨n, rfl⟩ := hw
    rw [run_call_func rfl hx hf hn hb]
    exact hc n
  · obtain ⟨w, ⟨n, rfl⟩, hm⟩ := hu
    rw [run_call_func rfl hx hf hn hb] at hm
    exact put_of_quiet (w := w0) ⟨0, rfl⟩ (h u hm)
end

end Go.Proofs.Ytabhjnpmmjmaiab
