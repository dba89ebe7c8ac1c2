/- Regions whose order is open, by an invariant: what only reads is taken first; the others come in any order, and the invariant knows which of them are done. Conditions: those of wp_region_inv. -/
import Derived.Test.YtedfbaeajofmnaaPlan
namespace Go.Proofs.Ytedfbaeajofmnaa
open Go Go.RowKit
set_option linter.unusedVariables false

section
variable {P : Program} {ops : Array Oper} {md : Region.Mode} {Q : Exit → Act → World → Prop} {S : World → Prop}

/-- as long as one of the first n is not done, only the first n come up -/
def Heads (md : Region.Mode) (ops : Array Oper) (n : Nat) : Prop := ∀ (listed : Array Bool) (i : Nat), HeadInv md ops n listed → i < n → listed.getD i true = false → ∀ j ∈ Region.ready md ops listed, j < n

theorem heads_tail {n : Nat} (hs : Region.sinkB md ops n = true) (hc : Region.chainB md ops n = true) (hn : n < ops.size) : Heads md ops n := fun listed i inv hi hun j hj => by
  rcases Nat.lt_or_ge j n with h | h
  · exact h
  · exact absurd hj (tail_waits hs hc hn inv _ i rfl hi hun j h)

theorem heads_all : Heads md ops ops.size := fun listed i _ _ _ j hj => by
  obtain ⟨_, o, ho, _⟩ := mem_ready.1 hj
  exact (Array.getElem?_eq_some_iff.1 ho).1

theorem wpAnyG_firstW {n g i : Nat} {oi : Oper} {v : Value} (hi : ops[i]? = some oi) (hsel : ∀ (j : Nat) (o : Oper) cs b, ops[j]? = some o → o.op ≠ .select cs b)
    (hW : Heads md ops n) (hin : i < n)
    (hQ : ∀ c a w, Q (.panic c) (a.put oi.dst v) w → Q (.panic c) a w) :
    ∀ (f : Nat) (listed : Array Bool) (a : Act) (w : World), HeadInv md ops n listed →
      (∀ j oj, ops[j]? = some oj → j ≠ i → listed.getD j true = false → (∀ e ∈ oj.after, Region.binds md e = true → e.on ≠ i) → oi.apart ops oj = true) →
      i ∈ Region.ready md ops listed → YieldsIf P ops S oi v a → S w →
      wpAnyG P md ops Q S n g f (listed.setIfInBounds i true) (a.put oi.dst v) w → wpAnyG P md ops Q S n g (f + 1) listed a w := by
  intro f
  induction f with
  | zero =>
    intro listed a w inv _ hr hy hS H
    have hun := (mem_ready.1 hr).1
    refine ⟨fun h => (by rw [h] at hr; cases hr), fun j hj => ?_⟩
    have hjn : j < n := hW listed i inv hin hun j hj
    refine ⟨hjn, ?_⟩
    by_cases hji : j = i
    · subst hji; exact hy.wpOp hi hS ⟨hS, H⟩
    · have := H.1 j (ready_mono hj hji)
      omega
  | succ f ih =>
    intro listed a w inv hfree hr hy hS H
    have hun := (mem_ready.1 hr).1
    refine ⟨fun h => (by rw [h] at hr; cases hr), fun j hj => ?_⟩
    have hjn : j < n := hW listed i inv hin hun j hj
    refine ⟨hjn, ?_⟩
    by_cases hji : j = i
    · subst hji; exact hy.wpOp hi hS ⟨hS, H⟩
    · have h1 := (H.2 j (ready_mono hj hji)).2
      obtain ⟨hjun, oj, hoj, hall⟩ := mem_ready.1 hj
      have hnot : ∀ e ∈ oj.after, Region.binds md e = true → e.on ≠ i := fun e he hb heq => by
        have h1 := hall e he hb
        rw [heq, getD_both hun] at h1
        cases h1
      have h2 := wpOp_putIf hoj (hfree j oj hoj hji hjun hnot) (fun cs b => hsel i oi cs b hi) (fun cs b => hsel j oj cs b hoj) hQ hy h1
      have hfree' : ∀ k ok, ops[k]? = some ok → k ≠ i → (listed.setIfInBounds j true).getD k true = false →
          (∀ e ∈ ok.after, Region.binds md e = true → e.on ≠ i) → oi.apart ops ok = true := fun k ok hk hki hun hno => by
        refine hfree k ok hk hki ?_ hno
        by_cases hjk : j = k
        · subst hjk; exact hjun
        · rw [getD_set_ne true hjk] at hun; exact hun
      refine wpOp_mono (fun a' w' h3 => ⟨h3.2.1, ih (listed.setIfInBounds j true) a' w' (inv.set hj hjn) hfree' (ready_mono hr (Ne.symm hji)) h3.1 h3.2.1 ?_⟩) h2
      rw [Array.setIfInBounds_comm _ _ hji]
      exact h3.2.2

def takesB (md : Region.Mode) (ops : Array Oper) (n : Nat) : List Nat → Array Bool → Bool
  | [], _ => true
  | i :: r, listed => decide (i < n) && ((Region.ready md ops listed).contains i && (Region.free md ops listed i && takesB md ops n r (listed.setIfInBounds i true)))

def takeWalk (P : Program) (ops : Array Oper) (S : World → Prop) (K : Act → Prop) : List Nat → Act → Prop
  | [], a => K a
  | i :: r, a => ∃ o v, ops[i]? = some o ∧ YieldsIf P ops S o v a ∧ takeWalk P ops S K r (a.put o.dst v)

theorem wpAnyG_takesW {n g f : Nat} (hsel : Region.noSelect ops = true) (hW : Heads md ops n) (hQ : ∀ c a d v w, Q (.panic c) (Act.put a d v) w → Q (.panic c) a w) {w : World} (hS : S w) :
    ∀ (r : List Nat) (listed : Array Bool) (a : Act), HeadInv md ops n listed → takesB md ops n r listed = true →
    takeWalk P ops S (fun a' => HeadInv md ops n (r.foldl (fun b i => b.setIfInBounds i true) listed) → wpAnyG P md ops Q S n g f (r.foldl (fun b i => b.setIfInBounds i true) listed) a' w) r a → wpAnyG P md ops Q S n g (r.length + f) listed a w
  | [], listed, a, inv, _, h => by rw [show ([] : List Nat).length + f = f from Nat.zero_add _]; exact h inv
  | i :: r, listed, a, inv, hB, h => by
    simp only [takesB, Bool.and_eq_true, decide_eq_true_eq] at hB
    obtain ⟨hin, hr, hf, hB'⟩ := hB
    have hr' : i ∈ Region.ready md ops listed := by simpa using hr
    obtain ⟨o, v, h0, hy, h'⟩ := h
    rw [show (i :: r).length + f = (r.length + f) + 1 by simp only [List.length_cons]; omega]
    exact wpAnyG_firstW h0 (Region.noSelect_spec hsel) hW hin (fun c a w => hQ c a _ _ w) _ listed a w inv (Region.free_spec h0 hf) hr' hy hS (wpAnyG_takesW hsel hW hQ hS r _ _ (inv.set hr' hin) hB' h')

/-- edges go back -/
def laterB (md : Region.Mode) (ops : Array Oper) (n : Nat) : Bool := (List.range n).all fun k => match ops[k]? with | some o => o.after.all fun e => !(Region.binds md e) || decide (e.on < k) | none => false

def open_ (n : Nat) (b : Array Bool) : List Nat := (List.range n).filter fun i => !(b.getD i true)

theorem count_set {p : Nat → Bool} {i : Nat} : ∀ {l : List Nat}, l.Nodup → i ∈ l → p i = true → (l.filter p).length = (l.filter fun k => p k && decide (k ≠ i)).length + 1
  | [], _, h, _ => by cases h
  | x :: l, hn, h, hp => by
    obtain ⟨hx, hl⟩ := List.nodup_cons.1 hn
    by_cases e : x = i
    · subst e
      have e2 : l.filter (fun k => p k && decide (k ≠ x)) = l.filter p := by
        apply List.filter_congr
        intro k hk
        have : k ≠ x := fun e => hx (e ▸ hk)
        simp [this]
      rw [List.filter_cons_of_pos hp, List.filter_cons_of_neg (by simp), e2, List.length_cons]
    · have hm : i ∈ l := by
        rcases List.mem_cons.1 h with h | h
        · exact absurd h.symm e
        · exact h
      have ih := count_set hl hm hp
      cases hpx : p x
      · rw [List.filter_cons_of_neg (by simp [hpx]), List.filter_cons_of_neg (by simp [hpx]), ih]
      · rw [List.filter_cons_of_pos hpx, List.filter_cons_of_pos (by simp [hpx, e]), List.length_cons, List.length_cons, ih]

theorem open_set {n i : Nat} {b : Array Bool} (hi : i < n) (hn : n ≤ b.size) (hb : b.getD i true = false) : (open_ n b).length = (open_ n (b.setIfInBounds i true)).length + 1 := by
  unfold open_
  rw [count_set List.nodup_range (List.mem_range.2 hi) (by rw [hb]; rfl)]
  congr 2
  apply List.filter_congr
  intro k hk
  by_cases e : k = i
  · subst e
    have : (b.setIfInBounds k true).getD k true = true := by simp [show k < b.size by omega]
    rw [this]; simp
  · rw [getD_set_ne true (Ne.symm e)]; simp [e]

theorem listedTo_get (N : Nat) : ∀ (n k : Nat), n ≤ N → (listedTo N n).size = N ∧ (k < N → (listedTo N n).getD k true = decide (k < n))
  | 0, k, _ => by
    refine ⟨by simp [listedTo], fun hk => ?_⟩
    have h : (listedTo N 0).getD k true = false := by unfold listedTo; exact getD_in (by simpa using hk) (getD_replicate_false _ _)
    rw [h]; simp
  | n + 1, k, hn => by
    obtain ⟨h1, h2⟩ := listedTo_get N n k (by omega)
    refine ⟨by unfold listedTo; simp [h1], fun hk => ?_⟩
    unfold listedTo
    by_cases e : n = k
    · subst e
      have : ((listedTo N n).setIfInBounds n true).getD n true = true := by simp [h1, hk]
      rw [this]; simp
    · rw [getD_set_ne true e, h2 hk, decide_eq_decide]; omega

/-- after the takes: the others in any order -/
theorem wpAnyG_inv {n : Nat} {l : List Oper} (hl : ops = l.toArray) (hnN : n ≤ ops.size) (hW : Heads md ops n) (hlat : laterB md ops n = true) (hseq : Region.seqB md ops (ops.size - n) n (listedTo ops.size n) = true) (rest : List Nat) (I : Array Bool → Act → World → Prop) (hIS : ∀ b a w, I b a w → S w)
    (hstep : ∀ i ∈ rest, ∀ b a w, i < b.size → (∀ o, ops[i]? = some o → ∀ e ∈ o.after, Region.binds md e = true → b.getD e.on false = true) → b.getD i true = false → I b a w → ∃ o, ops[i]? = some o ∧ wpList P ops (heldPost S Q (fun a' w' => I (b.setIfInBounds i true) a' w')) [o] a w)
    (hend : ∀ a w, I (listedTo ops.size n) a w → wpList P ops Q (l.drop n) a w) :
    ∀ (f : Nat) (b : Array Bool) (a : Act) (w : World), HeadInv md ops n b → (∀ i, i < n → b.getD i true = false → i ∈ rest) → (open_ n b).length = f → I b a w → wpAnyG P md ops Q S n (ops.size - n) f b a w
  | 0, b, a, w, inv, hrest, hf, hI => by
    have hall : ∀ i, i < n → b.getD i true = true := fun i hi => by
      cases h : b.getD i true
      · have : i ∈ open_ n b := List.mem_filter.2 ⟨List.mem_range.2 hi, by rw [h]; rfl⟩
        rw [List.length_eq_zero_iff.1 hf] at this; cases this
      · rfl
    have hb : b = listedTo ops.size n := by
      apply Array.ext
      · rw [inv.size, (listedTo_get ops.size n 0 hnN).1]
      · intro k h1 h2
        have hk : k < ops.size := by rw [← inv.size]; exact h1
        have e1 : b.getD k true = b[k] := by simp [h1]
        have e2 : (listedTo ops.size n).getD k true = (listedTo ops.size n)[k] := by simp [h2]
        rw [← e1, ← e2, (listedTo_get ops.size n k hnN).2 hk]
        by_cases hkn : k < n
        · rw [hall k hkn, decide_eq_true hkn]
        · rw [inv.tail k (by omega) hk, decide_eq_false hkn]
    subst hb
    refine ⟨fun j hj => seqB_ready hseq j hj, ?_⟩
    have td : (l.drop n).length = ops.size - n := by rw [hl]; simp
    have := wpAny_of_seq (md := md) (ops := ops) (Q' := Q) (l.drop n) n _ a w (fun j => by rw [hl]; simp [List.getElem?_drop]) (by rw [td]; exact hseq) (hend a w hI)
    rwa [td] at this
  | f + 1, b, a, w, inv, hrest, hf, hI => by
    have hne : ∃ i, i ∈ open_ n b := by
      cases h : open_ n b with
      | nil => rw [h] at hf; cases hf
      | cons x r => exact ⟨x, by simp⟩
    -- the least one that is not done is ready
    have least : ∃ i, i < n ∧ b.getD i true = false ∧ ∀ j, j < i → b.getD j true = true := by
      obtain ⟨i0, h0⟩ := hne
      have hi0 := List.mem_filter.1 h0
      have h1 : i0 < n := List.mem_range.1 hi0.1
      have h2 : b.getD i0 true = false := by simpa using hi0.2
      clear h0 hi0
      induction i0 using Nat.strongRecOn with
      | _ i0 ih =>
        by_cases hx : ∃ j, j < i0 ∧ b.getD j true = false
        · obtain ⟨j, hj, hb⟩ := hx
          exact ih j hj (by omega) hb
        · refine ⟨i0, h1, h2, fun j hj => ?_⟩
          cases hb : b.getD j true
          · exact absurd ⟨j, hj, hb⟩ hx
          · rfl
    obtain ⟨i0, hi0, hu0, hall0⟩ := least
    have hr0 : i0 ∈ Region.ready md ops b := by
      have hlt : i0 < ops.size := by omega
      rw [mem_ready]
      refine ⟨hu0, _, Array.getElem?_eq_getElem hlt, fun e he hb => ?_⟩
      have hk := List.all_eq_true.1 hlat i0 (List.mem_range.2 hi0)
      rw [Array.getElem?_eq_getElem hlt] at hk
      dsimp only at hk
      obtain ⟨q, hq, rfl⟩ := Array.mem_iff_getElem.1 he
      have hk2 := Array.all_eq_true.1 hk q hq
      rw [hb] at hk2
      have hlt2 : (ops[i0].after[q]).on < i0 := by simpa using hk2
      have ht := hall0 _ hlt2
      have hsz : (ops[i0].after[q]).on < b.size := by rw [inv.size]; omega
      simp [hsz] at ht ⊢; exact ht
    refine ⟨fun h => (by rw [h] at hr0; cases hr0), fun i hi => ?_⟩
    have hin : i < n := hW b i0 inv hi0 hu0 i hi
    obtain ⟨hun, o, ho, hdeps⟩ := mem_ready.1 hi
    refine ⟨hin, ?_⟩
    obtain ⟨o', ho', hw⟩ := hstep i (hrest i hin hun) b a w (by rw [inv.size]; omega) (fun o2 h2 e he hb => hdeps e (by rw [ho] at h2; cases h2; exact he) hb) hun hI
    refine wpOp_mono (fun a' w' h' => ⟨h'.1, ?_⟩) (wpOp_held ho' hw)
    refine wpAnyG_inv hl hnN hW hlat hseq rest I hIS hstep hend f (b.setIfInBounds i true) a' w' (inv.set hi hin) (fun k hk hku => ?_) ?_ h'.2
    · by_cases e : i = k
      · subst e
        have : (b.setIfInBounds i true).getD i true = true := by simp [show i < b.size by rw [inv.size]; omega]
        rw [this] at hku; cases hku
      · rw [getD_set_ne true e] at hku; exact hrest k hk hku
    · have := open_set hin (by rw [inv.size]; exact hnN) hun
      omega

def invFits (md : Region.Mode) (ops : Array Oper) (n : Nat) (take rest : List Nat) : Bool :=
  Region.noSelect ops && (decide (n ≤ ops.size) && ((decide (n = ops.size) || (decide (n < ops.size) && (Region.sinkB md ops n && Region.chainB md ops n))) && (laterB md ops n && (Region.seqB md ops (ops.size - n) n (listedTo ops.size n) && (takesB md ops n take (Array.replicate ops.size false) &&
    (decide ((open_ n (take.foldl (fun b i => b.setIfInBounds i true) (Array.replicate ops.size false))) = rest) && decide (take.length + rest.length = n)))))))

/-- what is to be shown behind the takes: an invariant, that it holds now, that each operation keeps it, and what follows from it in the end -/
def InvGoal (P : Program) (l : List Oper) (Q : Exit → Act → World → Prop) (S : World → Prop) (n : Nat) (take rest : List Nat) (w : World) (a' : Act) : Prop :=
  ∀ A0, A0 = a' → ∃ I : Array Bool → Act → World → Prop, (∀ b a w, I b a w → S w) ∧ I (take.foldl (fun b i => b.setIfInBounds i true) (Array.replicate l.toArray.size false)) A0 w ∧
    (∀ i ∈ rest, ∀ b a w, i < b.size → (∀ o, l.toArray[i]? = some o → ∀ e ∈ o.after, Region.binds .any e = true → b.getD e.on false = true) → b.getD i true = false → I b a w → ∃ o, l.toArray[i]? = some o ∧ wpList P l.toArray (heldPost S Q (fun a' w' => I (b.setIfInBounds i true) a' w')) [o] a w) ∧
    (∀ a w, I (listedTo l.toArray.size n) a w → wpList P l.toArray Q (l.drop n) a w)

theorem got_set {b : Array Bool} {i j : Nat} (hne : i ≠ j) (h : (b.setIfInBounds i true).getD j true = true) : b.getD j true = true := by rwa [getD_set_ne true hne] at h
theorem set_keepT {b : Array Bool} {i j : Nat} (h : b.getD j true = true) : (b.setIfInBounds i true).getD j true = true := by
  by_cases e : i = j
  · subst e
    rcases Nat.lt_or_ge i b.size with h' | h'
    · simp [h']
    · simp [Array.getElem?_eq_none (show (b.setIfInBounds i true).size ≤ i by simpa using h')]
  · rw [getD_set_ne true e]; exact h
theorem getD_tt {b : Array Bool} {i : Nat} (h : b.getD i false = true) : b.getD i true = true := by
  rcases Nat.lt_or_ge i b.size with h' | h'
  · simp [h'] at h ⊢; exact h
  · simp [Array.getElem?_eq_none h'] at h

/-- A REGION BY AN INVARIANT -/
theorem wp_region_inv {id : Nat} {a : Act} {w : World} {l : List Oper} (S : World → Prop) (n : Nat) (take rest : List Nat) (hm : P.follows .mixedOrders = true) (hB : invFits .any l.toArray n take rest = true) (hQ : ∀ c a d v w, Q (.panic c) (Act.put a d v) w → Q (.panic c) a w) (hS : S w.drew)
    (htake : takeWalk P l.toArray S (InvGoal P l Q S n take rest w.drew) take a) : (Code.region id l.toArray true).wp P Q a w := by
  simp only [invFits, Bool.and_eq_true, Bool.or_eq_true, decide_eq_true_eq] at hB
  obtain ⟨hsel, hnN, hh, hlat, hseq, htk, hop, hlen⟩ := hB
  have hW : Heads .any l.toArray n := by
    rcases hh with rfl | ⟨hn, hs, hc⟩
    · exact heads_all
    · exact heads_tail hs hc hn
  refine wp_region_any hm ?_
  have inv0 : HeadInv .any l.toArray n (Array.replicate l.toArray.size false) :=
    ⟨by simp, fun j oj _ hl => (by rw [getD_replicate_false] at hl; cases hl), fun t _ ht => getD_in (by simpa using ht) (getD_replicate_false _ _)⟩
  have tm : ∀ (K K' : Act → Prop) (hK : ∀ a, K a → K' a) (r : List Nat) (a : Act), takeWalk P l.toArray S K r a → takeWalk P l.toArray S K' r a := by
    intro K K' hK r
    induction r with
    | nil => intro a h; exact hK _ h
    | cons i r ih => intro a h; obtain ⟨o, v, h0, hy, h'⟩ := h; exact ⟨o, v, h0, hy, ih _ h'⟩
  have H := wpAny_of_G _ _ _ _ (wpAnyG_takesW (md := .any) (Q := Q) (n := n) (g := l.toArray.size - n) (f := rest.length) hsel hW hQ hS take _ a inv0 htk (tm _ _ (fun a' hG inv => by
      obtain ⟨I, hIS, hI, hstep, hend⟩ := hG a' rfl
      exact wpAnyG_inv (md := .any) rfl hnN hW hlat hseq rest I hIS hstep hend rest.length _ a' w.drew inv (fun i hi hu => by
        rw [← hop]; exact List.mem_filter.2 ⟨List.mem_range.2 hi, by rw [hu]; rfl⟩) (by rw [hop]) hI) take a htake))
  rw [show take.length + rest.length + (l.toArray.size - n) = l.toArray.size by omega] at H
  exact H

variable {K : Act → Prop} {i : Nat} {r : List Nat} {a : Act} {dst : Option Tmp} {ty : TypeId} {pos : String} {after : Array Edge} {guard : Option (Nat × Bool)}

theorem itake_load {tt : TypeId} {x : Operand} (h0 : ops[i]? = some { dst := dst, op := .load tt x, type := ty, pos := pos, after := after, guard := guard }) (hw : Region.wanted { dst := dst, op := .load tt x, type := ty, pos := pos, after := after, guard := guard } (yielded ops a.tmps) = true) (p : Addr) (hx : a.eval x = .pointer (some p)) (v : Value)
    (hl : ∀ w', S w' → (loadVar tt p).run P w' = .ok v w') (h : takeWalk P ops S K r (a.put dst v)) : takeWalk P ops S K (i :: r) a :=
  ⟨_, v, h0, .inl ⟨hw, fun w' hw' => by
    unfold execOp
    simp only [hx, Instr.loadAt, Instr.sureAddr, Sem.run_bind, Sem.run_pure, Result.andThen_ok, hl w' hw']⟩, h⟩

theorem itake_plain {o : Oper} (h0 : ops[i]? = some o) (hw : Region.wanted o (yielded ops a.tmps) = true) (v : Value) (hr : ∀ w', S w' → (execOp a.eval o).run P w' = .ok (.value v) w') (h : takeWalk P ops S K r (a.put o.dst v)) : takeWalk P ops S K (i :: r) a :=
  ⟨o, v, h0, .inl ⟨hw, fun w' hw' => hr w' hw'⟩, h⟩

/-- what an operation that makes memory does -/
theorem inv_make {K2 : Act → World → Prop} {w : World} {o : Oper} (hw : Region.wanted o (yielded ops a.tmps) = true) (v : Value) (w1 : World) (hr : (execOp a.eval o).run P w = .ok (.value v) w1) (hS : S w1) (h : K2 (a.put o.dst v) w1) : wpList P ops (heldPost S Q K2) [o] a w := by
  unfold wpList
  rw [if_pos hw]
  left
  unfold Oper.wp
  rw [hr]
  simp only [Oper.upon]
  exact ⟨hS, h⟩

/-- what an operation that stores does -/
theorem inv_skip {K2 : Act → World → Prop} {w : World} {o : Oper} (hw : Region.wanted o (yielded ops a.tmps) = true) (w1 : World) (hr : (execOp a.eval o).run P w = .ok .skip w1) (hS : S w1) (h : K2 (a.put o.dst undef) w1) : wpList P ops (heldPost S Q K2) [o] a w := by
  unfold wpList
  rw [if_pos hw]
  left
  unfold Oper.wp
  rw [hr]
  simp only [Oper.upon]
  exact ⟨hS, h⟩

end
end Go.Proofs.Ytedfbaeajofmnaa
