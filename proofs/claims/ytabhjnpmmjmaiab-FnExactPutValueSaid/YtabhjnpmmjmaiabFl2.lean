/- Floats up to the bits of a NaN: what an operation of the model gives, as a function on 'canon' (none: a NaN). Conditions: none beyond those of each theorem. -/
import Derived.WalkKit
import Derived.WalkLawsBesides
import Derived.Deep.Draws
import Derived.Lib.Hide
import Derived.Test.YtabhjnpmmjmaiabFl1
namespace Go.Proofs.Ytabhjnpmmjmaiab
open Go Ieee

/-- the number is a NaN -/
def isN (k : FloatKind) (b : Nat) : Bool := (k.decode b).isNaN

/-- The bits of a number that is no NaN. -/
def canon (k : FloatKind) (b : Nat) : Option Nat := if (k.decode b).isNaN then none else some b

theorem canon_some {k : FloatKind} {b c : Nat} (h : canon k b = some c) : c = b ∧ (k.decode b).isNaN = false := by
  unfold canon at h
  split at h
  · cases h
  · rename_i hn; cases h; exact ⟨rfl, by simpa using hn⟩

theorem canon_none {k : FloatKind} {b : Nat} : canon k b = none ↔ (k.decode b).isNaN = true := by
  unfold canon; split <;> simp_all

theorem canon_of_not {k : FloatKind} {b : Nat} (h : (k.decode b).isNaN = false) : canon k b = some b := by
  unfold canon; rw [if_neg (by simp [h])]

theorem sum_notNaN {x y d : Datum} (h : x.sum y = some d) : d.isNaN = false := by
  unfold Datum.sum at h
  split at h <;> first | (cases h; done) | skip
  · split at h
    · cases h; rfl
    · cases h
  · cases h; rfl
  · cases h; rfl
  · cases h; rfl

theorem product_notNaN {x y d : Datum} (h : x.product y = some d) : d.isNaN = false := by
  unfold Datum.product at h
  split at h <;> first | (cases h; done) | skip
  · cases h; rfl
  · split at h
    · cases h
    · cases h; rfl
  · split at h
    · cases h
    · cases h; rfl
  · cases h; rfl

theorem quotient_notNaN {n : Nat} {x y d : Datum} (h : x.quotient n y = some d) : d.isNaN = false := by
  unfold Datum.quotient at h
  split at h <;> first | (cases h; done) | skip
  · cases h; rfl
  · cases h; rfl
  · split at h
    · split at h
      · cases h
      · cases h; rfl
    · cases h; rfl

theorem root_notNaN {n : Nat} {x d : Datum} (h : x.root n = some d) : d.isNaN = false := by
  unfold Datum.root at h
  split at h <;> first | (cases h; done) | skip
  · split at h
    · cases h
    · cases h; rfl
  · split at h
    · cases h; rfl
    · split at h
      · cases h
      · cases h; rfl

theorem binade_le_inf (k : FloatKind) : k.format.binade ≤ k.format.infRung := by cases k <;> decide

theorem read_word_notNaN (k : FloatKind) (s : Bool) {r : Nat} (h : r ≤ k.format.infRung) : (k.format.read (k.format.word s r)).isNaN = false := by
  rcases Nat.lt_or_ge r k.format.infRung with h1 | h1
  · rw [read_word _ _ h1]; split <;> rfl
  · obtain rfl : r = k.format.infRung := by omega
    rw [read_word_inf _ _ (binade_le_inf k)]; rfl

theorem nearest_notNaN (k : FloatKind) (s : Bool) (m : Nat) (e : Int) : (k.format.read (k.format.nearest s m e)).isNaN = false := by
  by_cases h : m = 0
  · unfold Format.nearest; rw [if_pos h]
    exact read_word_notNaN k s (Nat.zero_le _)
  · rw [nearest_rung _ _ h]
    exact read_word_notNaN k s (Nat.min_le_right ..)

theorem write_notNaN (k : FloatKind) {d : Datum} (h : d.isNaN = false) : (k.decode (k.encode d)).isNaN = false := by
  cases d with
  | number s m e => exact nearest_notNaN k s m e
  | infinity s => exact read_word_notNaN k s (Nat.le_refl _)
  | nan => cases h

theorem floatBits_notNaN {op : BinOp} {k : FloatKind} {a b r : Nat} (h : floatBits op k a b = some r) : (k.decode r).isNaN = false := by
  have go : ∀ {o : Option Datum}, (∀ d, o = some d → d.isNaN = false) → o.map k.format.write = some r → (k.decode r).isNaN = false := by
    intro o ho hr
    cases o with
    | none => cases hr
    | some d => cases hr; exact write_notNaN k (ho d rfl)
  unfold floatBits at h
  split at h
  · exact go (fun d hd => sum_notNaN hd) h
  · exact go (fun d hd => sum_notNaN hd) h
  · exact go (fun d hd => product_notNaN hd) h
  · exact go (fun d hd => quotient_notNaN hd) h
  · cases h

theorem isNaN_form : ∀ d : Datum, d.isNaN = true → ∃ s t, d = .nan s t
  | .nan s t, _ => ⟨s, t, rfl⟩
  | .number .., h => by cases h
  | .infinity _, h => by cases h

/-- An operation on numbers of which one may be a NaN. -/
def fop (op : BinOp) (k : FloatKind) : Option Nat → Option Nat → Option Nat
  | some a, some b => floatBits op k a b
  | _, _ => none

theorem floatBits_canon (op : BinOp) (k : FloatKind) (a b : Nat) : floatBits op k a b = fop op k (canon k a) (canon k b) := by
  have hn := isNaN_form
  by_cases ha : (k.decode a).isNaN = true
  · rw [canon_none.2 ha]
    obtain ⟨s, t, e⟩ := hn _ ha
    have e' : k.format.read a = .nan s t := e
    show _ = none
    unfold floatBits; split <;> first | rfl | simp [Format.add, Format.sub, Format.mul, Format.div, e', Datum.sum, Datum.product, Datum.quotient]
  · by_cases hb : (k.decode b).isNaN = true
    · rw [canon_none.2 hb]
      obtain ⟨s, t, e⟩ := hn _ hb
      have e' : k.format.read b = .nan s t := e
      have : fop op k (canon k a) none = none := by cases canon k a <;> rfl
      rw [this]
      unfold floatBits; split <;> first | rfl | (cases hd : k.format.read a <;> simp [Format.add, Format.sub, Format.mul, Format.div, e', hd, Datum.opposite, Datum.sum, Datum.product, Datum.quotient])
    · rw [canon_of_not (by simpa using ha), canon_of_not (by simpa using hb)]; rfl

/-- how two stand to each other -/
def ford (k : FloatKind) : Option Nat → Option Nat → Option Ordering
  | some a, some b => k.format.order a b
  | _, _ => none

theorem order_canon (k : FloatKind) (a b : Nat) : k.format.order a b = ford k (canon k a) (canon k b) := by
  have hn := isNaN_form
  by_cases ha : (k.decode a).isNaN = true
  · rw [canon_none.2 ha]
    obtain ⟨s, t, e⟩ := hn _ ha
    have e' : k.format.read a = .nan s t := e
    simp [Format.order, e', Datum.order, ford]
  · by_cases hb : (k.decode b).isNaN = true
    · rw [canon_none.2 hb]
      obtain ⟨s, t, e⟩ := hn _ hb
      have e' : k.format.read b = .nan s t := e
      have : ford k (canon k a) none = none := by cases canon k a <;> rfl
      rw [this]
      cases hd : k.format.read a <;> simp [Format.order, e', hd, Datum.order]
    · rw [canon_of_not (by simpa using ha), canon_of_not (by simpa using hb)]; rfl

theorem order_self (k : FloatKind) (b : Nat) : k.format.order b b = if (k.decode b).isNaN then none else some .eq := by
  unfold Format.order
  show (k.decode b).order (k.decode b) = _
  generalize k.decode b = d
  cases d with
  | number s m e => simp only [Datum.order, Datum.isNaN]; simp
  | infinity s => cases s <;> rfl
  | nan => rfl

theorem nanCut (k : FloatKind) (q : Question) (t : Nat) (hq : (∃ x y, q = .nanBits k x y) ∨ (∃ x, q = .nanConv k x)) :
    (k.decode (q.cut t)).isNaN = true ∧ q.cut t < 2 ^ k.format.width ∧ q.forced = false := by
  have hc : (q.cut t = match k with | .f32 => (t % 2) * 2 ^ 31 + 0x7f800000 + 1 + (t / 2) % (2 ^ 23 - 1) | .f64 => (t % 2) * 2 ^ 63 + 0x7ff0000000000000 + 1 + (t / 2) % (2 ^ 52 - 1)) ∧ q.forced = false := by
    rcases hq with ⟨x, y, rfl⟩ | ⟨x, rfl⟩ <;> cases k <;> exact ⟨rfl, rfl⟩
  rw [hc.1]
  refine ⟨?_, ?_, hc.2⟩
  · cases k
    · show (Ieee.single.read _).isNaN = true
      have m1 : (t / 2) % (2 ^ 23 - 1) < 2 ^ 23 - 1 := Nat.mod_lt _ (by decide)
      have m2 : t % 2 < 2 := Nat.mod_lt _ (by decide)
      generalize (t / 2) % (2 ^ 23 - 1) = u at *
      generalize t % 2 = v at *
      have e1 : (v * 2 ^ 31 + 0x7f800000 + 1 + u) % 2 ^ 31 = 0x7f800000 + 1 + u := by omega
      unfold Format.read
      rw [show Ieee.single.signWeight = 2 ^ 31 from rfl, show Ieee.single.binade = 2 ^ 23 from rfl, show Ieee.single.infRung = 0x7f800000 from rfl]
      simp only [e1]
      rw [if_neg (by omega), if_neg (by omega), if_neg (by omega)]; rfl
    · show (Ieee.double.read _).isNaN = true
      have m1 : (t / 2) % (2 ^ 52 - 1) < 2 ^ 52 - 1 := Nat.mod_lt _ (by decide)
      have m2 : t % 2 < 2 := Nat.mod_lt _ (by decide)
      generalize (t / 2) % (2 ^ 52 - 1) = u at *
      generalize t % 2 = v at *
      have e1 : (v * 2 ^ 63 + 0x7ff0000000000000 + 1 + u) % 2 ^ 63 = 0x7ff0000000000000 + 1 + u := by omega
      unfold Format.read
      rw [show Ieee.double.signWeight = 2 ^ 63 from rfl, show Ieee.double.binade = 2 ^ 52 from rfl, show Ieee.double.infRung = 0x7ff0000000000000 from rfl]
      simp only [e1]
      rw [if_neg (by omega), if_neg (by omega), if_neg (by omega)]; rfl
  · have m2 : t % 2 < 2 := Nat.mod_lt _ (by decide)
    cases k
    · have m1 : (t / 2) % (2 ^ 23 - 1) < 2 ^ 23 - 1 := Nat.mod_lt _ (by decide)
      show _ < 2 ^ 32
      simp only []
      omega
    · have m1 : (t / 2) % (2 ^ 52 - 1) < 2 ^ 52 - 1 := Nat.mod_lt _ (by decide)
      show _ < 2 ^ 64
      simp only []
      omega

/-- what an operation's run leaves: a value known up to a NaN's bits, and at most some draws -/
theorem run_arith_any {P : Program} (w : World) (op : BinOp) (hop : op = .add ∨ op = .sub ∨ op = .mul ∨ op = .quo) (k : FloatKind) (a b : Nat) :
    ∃ v n, (Op.floatArith op k a b).run P w = .ok (.float k v) (w.drewN n) ∧ canon k v = fop op k (canon k a) (canon k b) ∧ v < 2 ^ k.format.width := by
  rw [← floatBits_canon]
  cases h : floatBits op k a b with
  | some r =>
    refine ⟨r, 0, ?_, canon_of_not (floatBits_notNaN h), ?_⟩
    · exact run_floatArith w h
    · have := floatBits_wf h
      cases k <;> (simp only [Lit.wf, decide_eq_true_eq] at this; exact this)
  | none =>
    have hq := nanCut k (.nanBits k a b) (w.tape w.drawn (.nanBits k a b)) (.inl ⟨_, _, rfl⟩)
    refine ⟨(Question.nanBits k a b).cut (w.tape w.drawn (.nanBits k a b)), 1, ?_, canon_none.2 hq.1, hq.2.1⟩
    have hf : (Question.nanBits k a b).forced = false := hq.2.2
    rcases hop with rfl | rfl | rfl | rfl <;> simp only [floatBits] at h <;> simp [Op.floatArith, h, hf, World.drewN]

/-- the four operations -/
def isArith : BinOp → Bool
  | .add | .sub | .mul | .quo => true
  | _ => false
theorem isArith_or {op : BinOp} (h : isArith op = true) : op = .add ∨ op = .sub ∨ op = .mul ∨ op = .quo := by
  cases op <;> first | (cases h; done) | simp

/-- a conversion between the kinds, up to a NaN; 'none' also where the number is too great -/
def fconv (src dst : FloatKind) : Option Nat → Option Nat
  | some b => floatToFloatBits src b dst
  | none => none

/-- the number is not too great for the other kind -/
def fits (src dst : FloatKind) (b : Nat) : Prop := src = dst ∨ (src.decode b).isNaN = true ∨ (floatToFloatBits src b dst).isSome = true

theorem floatToFloatBits_notNaN {src dst : FloatKind} {b r : Nat} (hn : (src.decode b).isNaN = false) (h : floatToFloatBits src b dst = some r) : (dst.decode r).isNaN = false := by
  unfold floatToFloatBits at h
  split at h
  · rename_i e; subst e; cases h; exact hn
  · split at h
    · cases h
    · cases h; exact write_notNaN dst rfl
    · split at h
      · cases h
      · cases h; exact write_notNaN dst rfl

theorem wf_lt {k : FloatKind} {r : Nat} (h : (Lit.float k r).wf = true) : r < 2 ^ k.format.width := by
  cases k <;> (simp only [Lit.wf, decide_eq_true_eq] at h; exact h)

/-- what a conversion between float kinds leaves -/
theorem run_conv_any {P : Program} (w : World) (src dst : FloatKind) (hne : src ≠ dst) (b : Nat) (hb : b < 2 ^ src.format.width) (hf : fits src dst b) :
    ∃ v n, (Conv.floatToFloat src b dst).run P w = .ok (.float dst v) (w.drewN n) ∧ canon dst v = fconv src dst (canon src b) ∧ v < 2 ^ dst.format.width := by
  by_cases hn : (src.decode b).isNaN = true
  · obtain ⟨s, t, e⟩ := isNaN_form _ hn
    have hq := nanCut dst (.nanConv dst b) (w.tape w.drawn (.nanConv dst b)) (.inr ⟨_, rfl⟩)
    refine ⟨(Question.nanConv dst b).cut (w.tape w.drawn (.nanConv dst b)), 1, ?_, ?_, hq.2.1⟩
    · have hf : (Question.nanConv dst b).forced = false := hq.2.2
      simp [Conv.floatToFloat, hne, e, hf, World.drewN]
    · rw [canon_none.2 hq.1, canon_none.2 hn]; rfl
  · have hn' : (src.decode b).isNaN = false := by simpa using hn
    have hs : (floatToFloatBits src b dst).isSome = true := by
      rcases hf with h | h | h
      · exact absurd h hne
      · exact absurd h hn
      · exact h
    obtain ⟨r, hr⟩ := Option.isSome_iff_exists.1 hs
    refine ⟨r, 0, ?_, ?_, ?_⟩
    · unfold floatToFloatBits at hr
      rw [if_neg hne] at hr
      split at hr
      · cases hr
      · rename_i s e; cases hr
        simp [Conv.floatToFloat, hne, e, World.drewN]
      · rename_i s m e he
        split at hr
        · cases hr
        · rename_i ho; cases hr
          simp [Conv.floatToFloat, hne, he, ho, World.drewN]
    · rw [canon_of_not hn', canon_of_not (floatToFloatBits_notNaN hn' hr)]; exact hr.symm
    · exact wf_lt (floatToFloatBits_wf (wf_of_lt src b hb) hr)

section
variable {P : Program} {ops : Array Oper} {Q : Exit → Act → World → Prop} {a : Act} {w : World} {rest : List Oper} {o : Oper}
theorem wp_arith (op : BinOp) (hop : isArith op = true) (t t2 : TypeId) (x y : Operand) (ho : o.op = .binOp op t x y t2) (k : FloatKind) (p q : Nat) (hx : a.eval x = .float k p) (hy : a.eval y = .float k q)
    {K : Act → World → Prop} (h : ∀ v n, canon k v = fop op k (canon k p) (canon k q) → v < 2 ^ k.format.width → K (a.put o.dst (.float k v)) (w.drewN n)) : o.wp P a w K Q := by
  have hop' := isArith_or hop
  obtain ⟨v, n, hr, hc, hv⟩ := run_arith_any (P := P) w op hop' k p q
  unfold Oper.wp execOp
  have e : binOp op t (.float k p) (.float k q) = Op.floatArith op k p q := by rcases hop' with rfl | rfl | rfl | rfl <;> simp [binOp]
  have g : eqGuard op t x y (.float k p) (.float k q) = pure () := by rcases hop' with rfl | rfl | rfl | rfl <;> rfl
  simp only [ho, hx, hy, g, e, Sem.run_bind, Sem.run_pure, Result.andThen_ok, hr]
  exact h v n hc hv

/-- AN ARM: '+', '-', '*', '/' on floats: the result is known up to a NaN's bits. -/
theorem wpList_arith (hgd : o.guard = none) (op : BinOp) (t t2 : TypeId) (x y : Operand) (ho : o.op = .binOp op t x y t2) (hop : isArith op = true) (k : FloatKind) (p q : Nat) (hx : a.eval x = .float k p) (hy : a.eval y = .float k q)
    (h : ∀ v n, canon k v = fop op k (canon k p) (canon k q) → v < 2 ^ k.format.width → wpList P ops Q rest (a.put o.dst (.float k v)) (w.drewN n)) : wpList P ops Q (o :: rest) a w :=
  wpList_plain hgd fun _ hK => wp_arith op hop t t2 x y ho k p q hx hy fun v n h1 h2 => hK _ _ (h v n h1 h2)

theorem wp_conv (t t2 : TypeId) (x : Operand) (ho : o.op = .convert t t2 x) (src dst : FloatKind) (hne : src ≠ dst) (p : Nat) (hx : a.eval x = .float src p) (hs : P.underlying t = some (.float src)) (hd : P.underlying t2 = some (.float dst))
    (hb : p < 2 ^ src.format.width) (hf : fits src dst p)
    {K : Act → World → Prop} (h : ∀ v n, canon dst v = fconv src dst (canon src p) → v < 2 ^ dst.format.width → K (a.put o.dst (.float dst v)) (w.drewN n)) : o.wp P a w K Q := by
  obtain ⟨v, n, hr, hc, hv⟩ := run_conv_any (P := P) w src dst hne p hb hf
  unfold Oper.wp execOp
  have e : (convert t t2 (.float src p)).run P w = .ok (.float dst v) (w.drewN n) := by
    simp [convert, run_underlying hs, run_underlying hd, hr]
  simp only [ho, hx, Sem.run_bind, Sem.run_pure, Result.andThen_ok, e]
  exact h v n hc hv

/-- AN ARM: a conversion between the two float kinds. -/
theorem wpList_conv (hgd : o.guard = none) (t t2 : TypeId) (x : Operand) (ho : o.op = .convert t t2 x) (src dst : FloatKind) (hne : src ≠ dst) (p : Nat) (hx : a.eval x = .float src p) (hs : P.underlying t = some (.float src)) (hd : P.underlying t2 = some (.float dst))
    (hb : p < 2 ^ src.format.width) (hf : fits src dst p)
    (h : ∀ v n, canon dst v = fconv src dst (canon src p) → v < 2 ^ dst.format.width → wpList P ops Q rest (a.put o.dst (.float dst v)) (w.drewN n)) : wpList P ops Q (o :: rest) a w :=
  wpList_plain hgd fun _ hK => wp_conv t t2 x ho src dst hne p hx hs hd hb hf fun v n h1 h2 => hK _ _ (h v n h1 h2)
end

/-! ### A 32-bit number is a 64-bit one -/

theorem read_bounds {f : Format} {b : Nat} {s : Bool} {m : Nat} {e : Int} (h : f.read b = .number s m e) :
    m < 2 * f.binade ∧ f.leastPlace ≤ e ∧ e ≤ f.leastPlace + (f.infRung / f.binade : Nat) := by
  have hp : 0 < f.binade := Nat.two_pow_pos _
  have hm : b % f.signWeight % f.binade < f.binade := Nat.mod_lt _ hp
  unfold Format.read at h
  simp only at h
  by_cases h1 : b % f.signWeight < f.binade
  · rw [if_pos h1] at h
    injection h with _ a2 a3
    have := Int.natCast_nonneg (f.infRung / f.binade)
    refine ⟨?_, ?_, ?_⟩
    · omega
    · omega
    · rw [← a3]; exact Int.le_add_of_nonneg_right (Int.natCast_nonneg _)
  · rw [if_neg h1] at h
    by_cases h2 : b % f.signWeight < f.infRung
    · rw [if_pos h2] at h
      injection h with _ a2 a3
      have hd := Nat.div_le_div_right (c := f.binade) (Nat.le_of_lt h2)
      generalize f.infRung / f.binade = z at *
      generalize b % f.signWeight / f.binade = y at *
      refine ⟨?_, ?_, ?_⟩ <;> omega
    · rw [if_neg h2] at h
      split at h <;> cases h

theorem widen_read (s : Bool) {m : Nat} (h : m ≠ 0) {e : Int} (hm : m < 2 ^ 24) (h1 : -149 ≤ e) (h2 : e ≤ 106) :
    Ieee.double.read (Ieee.double.nearest s m e) = .number s (m * 2 ^ (52 - m.log2)) (e - (52 - m.log2 : Nat)) := by
  have hl : m.log2 < 24 := (Nat.log2_lt h).2 hm
  have lp : Ieee.double.leastPlace = -1074 := rfl
  have fb : (Ieee.double.fractionBits : Int) = 52 := rfl
  have e1 : lastOf Ieee.double m e = e - (52 - m.log2 : Nat) := by
    unfold lastOf; rw [lp, fb]; omega
  have hr : rungOf Ieee.double m e < Ieee.double.infRung := by
    have := rungOf_le Ieee.double (m := m) e 131 (by omega) (by rw [lp, fb]; omega)
    refine Nat.lt_of_le_of_lt this ?_
    decide
  have := read_exact Ieee.double s h e (by rw [e1]; omega) hr
  rw [this, e1]
  congr 2
  congr 1
  omega

theorem fits_widen (b : Nat) : fits .f32 .f64 b := by
  by_cases hn : (FloatKind.f32.decode b).isNaN = true
  · exact .inr (.inl hn)
  · refine .inr (.inr ?_)
    unfold floatToFloatBits
    rw [if_neg (by decide)]
    have : FloatKind.f32.decode b = Ieee.single.read b := rfl
    rw [this] at hn ⊢
    cases hd : Ieee.single.read b with
    | nan s t => rw [hd] at hn; exact absurd rfl hn
    | infinity s => rfl
    | number s m e =>
      have hb := read_bounds hd
      simp only
      by_cases h0 : m = 0
      · subst h0
        have z : FloatKind.f64.encode (.number s 0 e) = Ieee.double.word s 0 := rfl
        rw [z]; cases s <;> rfl
      · have hw := widen_read s h0 (e := e) (by have : Ieee.single.binade = 2 ^ 23 := rfl; omega) (by have : Ieee.single.leastPlace = -149 := rfl; omega) (by have : Ieee.single.leastPlace = -149 := rfl; have : Ieee.single.infRung / Ieee.single.binade = 255 := rfl; omega)
        have : FloatKind.f64.decode (FloatKind.f64.encode (.number s m e)) = _ := hw
        rw [this]; rfl
end Go.Proofs.Ytabhjnpmmjmaiab
