/- Several texts in one: facts on floats, lists, memory and the functions that the theorems beside this text use. Conditions: none beyond those of each theorem. -/
import Derived.Test.YtedfbaeajofmnabBu0
import Derived.Test.YtedfbaeajofmnabBu1
import Derived.Test.YtedfbaeajofmnabBu3
import Derived.Test.YtedfbaeajofmnabBu5

set_option linter.unusedVariables false

section

namespace Go.Proofs.Ytedfbaeajofmnab
open Go Ieee Go.RowKit
set_option linter.unusedVariables false

theorem widen_mag {b v q : Nat} (hq : q = 925) (h : canon .f64 v = fconv .f32 .f64 (canon .f32 b)) (hf : rung Ieee.single b < Ieee.single.infRung) : magOf Ieee.double (rung Ieee.double v) = magOf Ieee.single (rung Ieee.single b) * 2 ^ q := by
  have hn : isN .f32 b = false := isN_of_le (k := .f32) (Nat.le_of_lt hf)
  have hn' : (FloatKind.f32.decode b).isNaN = false := hn
  have hv := fits_widen b
  rw [canon_of_not hn'] at h
  have hs : (floatToFloatBits .f32 b .f64).isSome = true := by
    rcases hv with hv | hv | hv
    · cases hv
    · rw [hn'] at hv; cases hv
    · exact hv
  obtain ⟨r, hr⟩ := Option.isSome_iff_exists.1 hs
  have h' : canon .f64 v = some r := h.trans hr
  obtain ⟨rfl, hnv⟩ := canon_some h'
  unfold floatToFloatBits at hr
  rw [if_neg (by decide)] at hr
  have hd : FloatKind.f32.decode b = Ieee.single.read b := rfl
  rw [hd] at hr hn'
  rcases read_cases Ieee.single b with ⟨h1, m, p, e, v1⟩ | ⟨h1, _, e⟩ | ⟨h1, e⟩ | h1
  · rw [e] at hr
    simp only at hr
    split at hr
    · cases hr
    · cases hr
      have hb := read_bounds e
      rw [← v1]
      by_cases h0 : m = 0
      · subst h0
        have z : FloatKind.f64.encode (.number (sgn Ieee.single b) 0 (Ieee.single.leastPlace + (p : Int))) = Ieee.double.word (sgn Ieee.single b) 0 := rfl
        obtain ⟨g1, g2⟩ := word_split Ieee.double (sgn Ieee.single b) (r := 0) (by decide)
        rw [z, show rung Ieee.double (Ieee.double.word (sgn Ieee.single b) 0) = 0 from g1, magOf_zero]
        rw [Nat.zero_mul, Nat.zero_mul]
      · have hw := widen_read (sgn Ieee.single b) h0 (e := Ieee.single.leastPlace + (p : Int)) (by have : Ieee.single.binade = 2 ^ 23 := rfl; omega) (by have : Ieee.single.leastPlace = -149 := rfl; omega) (by have : Ieee.single.leastPlace = -149 := rfl; have : Ieee.single.infRung / Ieee.single.binade = 255 := rfl; omega)
        have z : FloatKind.f64.encode (.number (sgn Ieee.single b) m (Ieee.single.leastPlace + (p : Int))) = Ieee.double.nearest (sgn Ieee.single b) m (Ieee.single.leastPlace + (p : Int)) := rfl
        rw [z]
        generalize Ieee.double.nearest (sgn Ieee.single b) m (Ieee.single.leastPlace + (p : Int)) = r at *
        rcases read_cases Ieee.double r with ⟨g1, m', p', e', v'⟩ | ⟨g1, _, e'⟩ | ⟨g1, e'⟩ | g1
        · rw [e'] at hw
          injection hw with w1 w2 w3
          rw [← v', w2]
          have hl1 : Ieee.single.leastPlace = -149 := rfl
          have hl2 : Ieee.double.leastPlace = -1074 := rfl
          have hlog : m.log2 < 24 := (Nat.log2_lt h0).2 (by have : Ieee.single.binade = 2 ^ 23 := rfl; omega)
          have hp : (52 - m.log2) + p' = p + q := by omega
          rw [Nat.mul_assoc, Nat.mul_assoc, ← Nat.pow_add, ← Nat.pow_add, hp]
        · rw [e'] at hw; cases hw
        · rw [e'] at hw; cases hw
        · exact absurd g1 (by decide)
  · omega
  · omega
  · exact absurd h1 (by decide)

/-- widening keeps how great two numbers are -/
theorem widen_rung {b c v u : Nat} (hb : canon .f64 v = fconv .f32 .f64 (canon .f32 b)) (hc : canon .f64 u = fconv .f32 .f64 (canon .f32 c)) (nb : isN .f32 b = false) (nc : isN .f32 c = false) : rung Ieee.double v < rung Ieee.double u ↔ rung Ieee.single b < rung Ieee.single c := by
  obtain ⟨b1, _, b3, _⟩ := widen_facts hb nb
  obtain ⟨c1, _, c3, _⟩ := widen_facts hc nc
  have e1 : rung Ieee.double v ≤ Ieee.double.infRung := isN_false b1
  have e2 : rung Ieee.double u ≤ Ieee.double.infRung := isN_false c1
  have e3 : rung Ieee.single b ≤ Ieee.single.infRung := isN_false nb
  have e4 : rung Ieee.single c ≤ Ieee.single.infRung := isN_false nc
  by_cases f1 : rung Ieee.single b < Ieee.single.infRung
  · by_cases f2 : rung Ieee.single c < Ieee.single.infRung
    · obtain ⟨q, hq⟩ : ∃ q : Nat, q = 925 := ⟨_, rfl⟩
      rw [← magOf_lt_iff Ieee.double, widen_mag hq hb f1, widen_mag hq hc f2]
      exact (Nat.mul_lt_mul_right (Nat.two_pow_pos _)).trans (magOf_lt_iff Ieee.single)
    · have := b3.2 f1
      have : ¬ rung Ieee.double u < Ieee.double.infRung := fun q => f2 (c3.1 q)
      omega
  · have : ¬ rung Ieee.double v < Ieee.double.infRung := fun q => f1 (b3.1 q)
    omega

/-- 0 less a number -/
theorem zero_sub {x : Nat} (hx : isFin .f32 x) : fop .sub .f32 (some 0) (some x) = some (if rung Ieee.single x = 0 then 0 else Ieee.single.word (!sgn Ieee.single x) (rung Ieee.single x)) := by
  rw [sub_eq (k := .f32) (x := 0) (y := x) (by unfold isFin; decide) hx]
  have s0 : sv Ieee.single 0 = 0 := by decide
  show some (if sv Ieee.single 0 - sv Ieee.single x = 0 then _ else Ieee.single.nearest (decide (sv Ieee.single 0 - sv Ieee.single x < 0)) (sv Ieee.single 0 - sv Ieee.single x).natAbs Ieee.single.leastPlace) = _
  rw [s0]
  by_cases h0 : rung Ieee.single x = 0
  · have : sv Ieee.single x = 0 := by unfold sv; rw [h0, magOf_zero]; simp
    rw [this, if_pos h0]
    rfl
  · have hm := magOf_ne Ieee.single h0
    have hfx : rung Ieee.single x < Ieee.single.infRung := hx
    have key : ∀ (s : Bool) (q : Int), q.natAbs = magOf Ieee.single (rung Ieee.single x) → decide (q < 0) = s → Ieee.single.nearest (decide (q < 0)) q.natAbs Ieee.single.leastPlace = Ieee.single.word s (rung Ieee.single x) := by
      intro s q hq hs
      rw [hs, hq, nearest_rung _ _ hm, rungOf_mag _ h0, Nat.min_eq_left (Nat.le_of_lt hfx)]
    rw [if_neg h0]
    unfold sv
    cases hs : sgn Ieee.single x
    · simp only [Bool.false_eq_true, if_false, Bool.not_false]
      rw [if_neg (by omega)]
      rw [key true _ (by omega) (by simp; omega)]
    · simp only [if_true, Bool.not_true]
      rw [if_neg (by omega)]
      rw [key false _ (by omega) (by simp)]

/-- the absolute value, no bits of a NaN -/
def sizeO (x : Nat) : Option Nat := if isN .f32 x then none else some (rung Ieee.single x)

theorem word_false (r : Nat) : Ieee.single.word false r = r := by simp [Format.word]

theorem size_neg {x : Nat} (hb : x < 2 ^ 32) (h : leB x 0 = true) : fop .sub .f32 (some 0) (canon .f32 x) = sizeO x := by
  have hn : isN .f32 x = false := by
    rcases hn : isN .f32 x with _ | _
    · rfl
    · unfold leB at h; rw [order_nan_left hn] at h; cases h
  have hn' : (FloatKind.f32.decode x).isNaN = false := hn
  have hk : key Ieee.single x ≤ 0 := by
    unfold leB at h
    rw [order_key .f32 hn (by decide)] at h
    have k0 : key FloatKind.f32.format 0 = 0 := by decide
    rw [k0] at h
    rcases Int.lt_trichotomy (key FloatKind.f32.format x) 0 with q | q | q
    · exact Int.le_of_lt q
    · exact Int.le_of_eq q
    · rw [Int.compare_eq_gt.2 q] at h; cases h
  rw [canon_of_not hn']
  unfold sizeO
  rw [hn]
  simp only [Bool.false_eq_true, if_false]
  by_cases hf : rung Ieee.single x < Ieee.single.infRung
  · rw [zero_sub hf]
    by_cases h0 : rung Ieee.single x = 0
    · rw [if_pos h0, h0]
    · rw [if_neg h0]
      have hs : sgn Ieee.single x = true := by
        unfold key at hk
        rcases hs : sgn Ieee.single x with _ | _
        · rw [hs] at hk; simp at hk; omega
        · rfl
      rw [hs]
      show some (Ieee.single.word false _) = _
      rw [word_false]
  · have e3 : rung Ieee.single x ≤ Ieee.single.infRung := isN_false hn
    have hr : rung Ieee.single x = 2139095040 := by have : Ieee.single.infRung = 2139095040 := rfl; omega
    have hs : sgn Ieee.single x = true := by
      unfold key at hk
      rcases hs : sgn Ieee.single x with _ | _
      · rw [hs] at hk; simp at hk; omega
      · rfl
    have hx : x = 4286578688 := by
      unfold rung at hr
      unfold sgn at hs
      have : Ieee.single.signWeight = 2147483648 := rfl
      rw [this] at hr hs
      simp at hs
      omega
    subst hx
    decide +kernel

theorem size_pos {x : Nat} (hb : x < 2 ^ 32) (h : leB x 0 = false) : canon .f32 x = sizeO x := by
  unfold sizeO
  rcases hn : isN .f32 x with _ | _
  · have hn' : (FloatKind.f32.decode x).isNaN = false := hn
    rw [canon_of_not hn']
    simp only [Bool.false_eq_true, if_false, Option.some.injEq]
    have hk : 0 < key Ieee.single x := by
      unfold leB at h
      rw [order_key .f32 hn (by decide)] at h
      have k0 : key FloatKind.f32.format 0 = 0 := by decide
      rw [k0] at h
      rcases Int.lt_trichotomy (key FloatKind.f32.format x) 0 with q | q | q
      · rw [Int.compare_eq_lt.2 q] at h; cases h
      · rw [q] at h; cases h
      · exact q
    have hs : sgn Ieee.single x = false := by
      rcases hs : sgn Ieee.single x with _ | _
      · rfl
      · unfold key at hk; rw [hs] at hk; simp at hk; omega
    unfold sgn at hs
    unfold rung
    have : Ieee.single.signWeight = 2147483648 := rfl
    rw [this] at hs ⊢
    simp at hs
    omega
  · exact canon_none.2 hn

set_option maxHeartbeats 800000 in
theorem specSize (x : Nat) (w : World) (hb : x < 2 ^ 32) : Calls Try.prog 86 #[.float .f32 x] w fun e w' => ∃ s n, e = .returned (.float .f32 s) ∧ w' = w.drewN n ∧ canon .f32 s = sizeO x ∧ s < 2 ^ 32 := by
  rcases h : leB x 0 with _ | _
  · have hp := size_pos hb h
    unfold leB at h
    go_enter Try.func86, Try.ntmps86
    go_wp2
    go_ret
    exact ⟨x, 0, rfl, rfl, hp, hb⟩
  · have hp := size_neg hb h
    have HP := Lib.hid hp; clear hp
    unfold leB at h
    go_enter Try.func86, Try.ntmps86
    go_wp2_with (refine wpList_arith rfl _ _ _ _ _ rfl rfl .f32 _ _ rfl rfl ?_; intro v n hc hv; have HC := Lib.hid hc; clear hc)
    go_ret
    exact ⟨v, n, rfl, rfl, by rw [HC.out, canon_zero]; exact HP.out, hv⟩
end Go.Proofs.Ytedfbaeajofmnab

end

section

namespace Go.Proofs.Ytedfbaeajofmnab
open Go Ieee Go.RowKit
set_option linter.unusedVariables false

/-- the number is at least l in absolute value -/
def arrB (l x : Nat) : Bool := !isN .f32 x && decide (rung Ieee.single l ≤ rung Ieee.single x)
def arrC (n : Nat) (l : Nat) : Bool := decide (n ≤ 64) && (finB .f32 l && !leB l 0)
def arrG (l : Nat) (xs : List Nat) : Option Nat := if arrC xs.length l then xs.findIdx? (arrB l) else none
def arrI (l : Nat) (xs : List Nat) : Int := ((arrG l xs).getD 0 : Nat)
def arrOk (l : Nat) (xs : List Nat) : Bool := (arrG l xs).isSome

theorem arr_no {l : Nat} {xs : List Nat} (h : arrC xs.length l = false) : arrI l xs = 0 ∧ arrOk l xs = false := by
  have : arrG l xs = none := by unfold arrG; rw [h]; rfl
  unfold arrI arrOk; rw [this]; exact ⟨rfl, rfl⟩

theorem arr_none {l : Nat} {xs : List Nat} (h : ∀ j (hj : j < xs.length), arrB l xs[j] = false) : arrI l xs = 0 ∧ arrOk l xs = false := by
  have : arrG l xs = none := by
    unfold arrG
    split
    · rw [List.findIdx?_eq_none_iff]
      intro x hx
      obtain ⟨i, hi, rfl⟩ := List.getElem_of_mem hx
      exact h i hi
    · rfl
  unfold arrI arrOk; rw [this]; exact ⟨rfl, rfl⟩

theorem arr_some {l : Nat} {xs : List Nat} (hc : arrC xs.length l = true) (k : Nat) (hk : k < xs.length) (h : ∀ j (hj : j < xs.length), j < k → arrB l xs[j] = false) (hx : arrB l xs[k] = true) : arrI l xs = (k : Int) ∧ arrOk l xs = true := by
  have : arrG l xs = some k := by
    unfold arrG
    rw [if_pos hc, List.findIdx?_eq_some_iff_getElem]
    exact ⟨hk, hx, fun j hj => by rw [h j (by omega) hj]; simp⟩
  unfold arrI arrOk; rw [this]; exact ⟨rfl, rfl⟩

theorem pos_key {l : Nat} (hf : finB .f32 l = true) (hl : leB l 0 = false) : isN .f32 l = false ∧ sgn Ieee.single l = false ∧ key Ieee.single l = rung Ieee.single l := by
  have hf' : rung Ieee.single l < Ieee.single.infRung := by unfold finB at hf; exact of_decide_eq_true hf
  have hn : isN .f32 l = false := isN_of_le (k := .f32) (Nat.le_of_lt hf')
  have hk : 0 < key Ieee.single l := by
    unfold leB at hl
    rw [order_key .f32 hn (by decide)] at hl
    have k0 : key FloatKind.f32.format 0 = 0 := by decide
    rw [k0] at hl
    rcases Int.lt_trichotomy (key FloatKind.f32.format l) 0 with q | q | q
    · rw [Int.compare_eq_lt.2 q] at hl; cases hl
    · rw [q] at hl; cases hl
    · exact q
  have hs : sgn Ieee.single l = false := by
    rcases hs : sgn Ieee.single l with _ | _
    · rfl
    · unfold key at hk; rw [hs] at hk; simp at hk; omega
  exact ⟨hn, hs, by unfold key; rw [hs]; rfl⟩

theorem ge_compare (a b : Nat) : (some (compare (a : Int) (b : Int)) == some Ordering.gt || some (compare (a : Int) (b : Int)) == some Ordering.eq) = decide (b ≤ a) := by
  rcases Int.lt_trichotomy (a : Int) b with q | q | q
  · rw [Int.compare_eq_lt.2 q, decide_eq_false (by omega)]; rfl
  · have e : a = b := by omega
    subst e
    rw [decide_eq_true (Nat.le_refl _)]; simp
  · rw [Int.compare_eq_gt.2 q, decide_eq_true (by omega)]; rfl

theorem spec_ge {l x s : Nat} (hf : finB .f32 l = true) (hl : leB l 0 = false) (hs : canon .f32 s = sizeO x) : (FloatKind.f32.format.order s l == some .gt || FloatKind.f32.format.order s l == some .eq) = arrB l x := by
  obtain ⟨h1, h2, h3⟩ := pos_key hf hl
  unfold sizeO at hs
  unfold arrB
  rcases hn : isN .f32 x with _ | _
  · rw [hn] at hs
    simp only [Bool.false_eq_true, if_false] at hs
    obtain ⟨e, hns⟩ := canon_some hs
    have hns' : isN .f32 s = false := hns
    rw [order_key .f32 hns' h1, ← e]
    show (some (compare (key Ieee.single (rung Ieee.single x)) (key Ieee.single l)) == some Ordering.gt || some (compare (key Ieee.single (rung Ieee.single x)) (key Ieee.single l)) == some Ordering.eq) = _
    rw [key_rung, h3, ge_compare]; rfl
  · rw [hn] at hs
    simp only [if_true] at hs
    have hns : isN .f32 s = true := canon_none.1 hs
    rw [order_nan_left hns]; rfl

theorem impl_ge {l x v u : Nat} (hf : finB .f32 l = true) (hl : leB l 0 = false) (hv : canon .f64 v = fconv .f32 .f64 (canon .f32 x)) (hu : canon .f64 u = fconv .f32 .f64 (canon .f32 l)) : (FloatKind.f64.format.order (rung Ieee.double v) u == some .gt || FloatKind.f64.format.order (rung Ieee.double v) u == some .eq) = arrB l x := by
  obtain ⟨h1, h2, h3⟩ := pos_key hf hl
  obtain ⟨u1, u2, _, _⟩ := widen_facts hu h1
  unfold arrB
  rcases hn : isN .f32 x with _ | _
  · obtain ⟨v1, _, _, _⟩ := widen_facts hv hn
    have e1 : rung Ieee.double v ≤ Ieee.double.infRung := isN_false v1
    have hnv : isN .f64 (rung Ieee.double v) = false := isN_of_le (k := .f64) (by show rung Ieee.double (rung Ieee.double v) ≤ _; rw [rung_rung]; exact e1)
    rw [order_key .f64 hnv u1]
    show (some (compare (key Ieee.double (rung Ieee.double v)) (key Ieee.double u)) == some Ordering.gt || some (compare (key Ieee.double (rung Ieee.double v)) (key Ieee.double u)) == some Ordering.eq) = _
    have ku : key Ieee.double u = rung Ieee.double u := by unfold key; rw [u2, h2]; rfl
    rw [key_rung, ku, ge_compare]
    have hw := widen_rung hv hu hn h1
    show _ = decide _
    rw [decide_eq_decide]
    omega
  · have hnv : isN .f64 v = true := (isN_conv hv (fits_widen _) (by decide)).trans hn
    have hnr : isN .f64 (rung Ieee.double v) = true := (isN_iff .f64 _).2 (by show _ < rung Ieee.double (rung Ieee.double v); rw [rung_rung]; exact (isN_iff .f64 v).1 hnv)
    rw [order_nan_left hnr]; rfl

end Go.Proofs.Ytedfbaeajofmnab

end

section

namespace Go.Proofs.Ytedfbaeajofmnab
open Go Ieee Go.RowKit
set_option linter.unusedVariables false

section
variable {P : Program} {ops : Array Oper} {Q : Exit → Act → World → Prop} {a : Act} {w : World} {rest : List Oper} {o : Oper}
/-- AN ARM: a conversion between the two float kinds behind a guard that lets it by. -/
theorem wpList_conv_w (hw : Region.wanted o (yielded ops a.tmps) = true) (t t2 : TypeId) (x : Operand) (ho : o.op = .convert t t2 x) (src dst : FloatKind) (hne : src ≠ dst) (p : Nat) (hx : a.eval x = .float src p) (hs : P.underlying t = some (.float src)) (hd : P.underlying t2 = some (.float dst))
    (hb : p < 2 ^ src.format.width) (hf : fits src dst p)
    (h : ∀ v n, canon dst v = fconv src dst (canon src p) → v < 2 ^ dst.format.width → wpList P ops Q rest (a.put o.dst (.float dst v)) (w.drewN n)) : wpList P ops Q (o :: rest) a w :=
  wpList_step fun K hK => by
    rw [if_pos hw]
    exact wp_conv t t2 x ho src dst hne p hx hs hd hb hf fun v n h1 h2 => hK _ _ (h v n h1 h2)
end

/-- x is greater in absolute value than the number at the place, if there is one -/
def betterB (xs : List Nat) (x : Nat) : Option Nat → Bool
  | none => true
  | some b => decide (rung Ieee.single (xs.getD b 0) < rung Ieee.single x)

/-- the place of the greatest of the first k numbers -/
def pk (xs : List Nat) : Nat → Option Nat
  | 0 => none
  | k + 1 => if !isN .f32 (xs.getD k 0) && betterB xs (xs.getD k 0) (pk xs k) then some k else pk xs k

def placeI : Option Nat → Int
  | none => -1
  | some b => (b : Int)

theorem pk_lt (xs : List Nat) : ∀ k b, pk xs k = some b → b < k ∧ isN .f32 (xs.getD b 0) = false := by
  intro k
  induction k with
  | zero => intro b h; cases h
  | succ k ih =>
    intro b h
    unfold pk at h
    split at h
    · rename_i hc
      cases h
      rw [Bool.and_eq_true] at hc
      exact ⟨by omega, by simpa using hc.1⟩
    · have := ih b h
      exact ⟨by omega, this.2⟩

theorem pk_nan {xs : List Nat} {k : Nat} (h : isN .f32 (xs.getD k 0) = true) : pk xs (k + 1) = pk xs k := by
  conv => lhs; unfold pk
  rw [h]; simp
theorem pk_yes {xs : List Nat} {k : Nat} (h : isN .f32 (xs.getD k 0) = false) (hb : betterB xs (xs.getD k 0) (pk xs k) = true) : pk xs (k + 1) = some k := by
  conv => lhs; unfold pk
  rw [h, hb]; simp
theorem pk_no {xs : List Nat} {k : Nat} (h : isN .f32 (xs.getD k 0) = false) (hb : betterB xs (xs.getD k 0) (pk xs k) = false) : pk xs (k + 1) = pk xs k := by
  conv => lhs; unfold pk
  rw [h, hb]; simp

theorem self_eq (x : Nat) : (FloatKind.f32.format.order x x == some .eq) = !isN .f32 x := by
  rw [order_self]
  unfold isN
  cases (FloatKind.f32.decode x).isNaN <;> rfl

theorem gt_compare (a b : Nat) : (some (compare (a : Int) (b : Int)) == some Ordering.gt) = decide (b < a) := by
  rcases Int.lt_trichotomy (a : Int) b with q | q | q
  · rw [Int.compare_eq_lt.2 q, decide_eq_false (by omega)]; rfl
  · have e : a = b := by omega
    subst e
    rw [decide_eq_false (by omega)]; simp
  · rw [Int.compare_eq_gt.2 q, decide_eq_true (by omega)]; rfl

theorem rung_notN {x : Nat} (h : isN .f32 x = false) : isN .f32 (rung Ieee.single x) = false :=
  isN_of_le (k := .f32) (by show rung Ieee.single (rung Ieee.single x) ≤ _; rw [rung_rung]; exact isN_false h)

theorem rung_gt {x y : Nat} (hx : isN .f32 x = false) (hy : isN .f32 y = false) : (FloatKind.f32.format.order (rung Ieee.single x) (rung Ieee.single y) == some .gt) = decide (rung Ieee.single y < rung Ieee.single x) := by
  rw [order_key .f32 (rung_notN hx) (rung_notN hy)]
  show (some (compare (key Ieee.single (rung Ieee.single x)) (key Ieee.single (rung Ieee.single y))) == some Ordering.gt) = _
  rw [key_rung, key_rung, gt_compare]

theorem rung_lt (x : Nat) : rung Ieee.single x < 2 ^ 32 := by
  unfold rung
  have : Ieee.single.signWeight = 2147483648 := rfl
  rw [this]; omega

theorem specSizeX (x : Nat) (w : World) (hb : x < 2 ^ 32) (hn : isN .f32 x = false) : Calls Try.prog 86 #[.float .f32 x] w fun e w' => e = .returned (.float .f32 (rung Ieee.single x)) ∧ ∃ n, w' = w.drewN n :=
  (specSize x w hb).mono fun e w' ⟨s, n, he, hw, hc, _⟩ => by
    unfold sizeO at hc
    rw [hn] at hc
    simp only [Bool.false_eq_true, if_false] at hc
    obtain ⟨hs, _⟩ := canon_some hc
    exact ⟨by rw [he, hs], n, hw⟩

theorem quietSize (x : Nat) (w : World) (n : Nat) (hb : x < 2 ^ 32) (hn : isN .f32 x = false) : Calls Try.prog 86 #[.float .f32 x] (w.drewN n) fun e w' => e = .returned (.float .f32 (rung Ieee.single x)) ∧ ∃ m, w' = w.drewN m :=
  (specSizeX x (w.drewN n) hb hn).mono fun e w' ⟨he, m, hw⟩ => ⟨he, n + m, by rw [hw]; simp⟩

set_option maxHeartbeats 4000000 in
set_option maxRecDepth 100000 in
theorem specPeak (a : Option Addr) (ca : Nat) (xs : List Nat) (w : World) (ha : RowV w a (fvals xs)) (hm : xs.length ≤ maxLen) (hb : ∀ x ∈ xs, x < 2 ^ 32) :
    Calls Try.prog 85 #[.slice a xs.length ca] w fun e w' => e = .returned (.int .i64 (placeI (pk xs xs.length))) ∧ ∃ n, w' = w.drewN n := by
  unfold maxLen at hm
  generalize hlen : xs.length = n at hm ⊢
  have HL := Lib.hid hlen; clear hlen
  go_enter Try.func85, Try.ntmps85
  go_wp2
  go_loopw [3, 4] (fun bv iv wr => ∃ k : Nat, k ≤ n ∧ iv = .int .i64 k ∧ bv = .int .i64 (placeI (pk xs k)) ∧ ∃ m, wr = w.drewN m) (fun _ iv _ => n - (intOf iv).toNat)
  case atStart => exact ⟨0, Nat.zero_le _, rfl, rfl, 0, rfl⟩
  case round =>
    obtain ⟨k, hk, rfl, rfl, m, hw⟩ := hrel
    have HW := Lib.hid hw; clear hw
    by_cases hlt : k < n
    · have k1 : k < xs.length := by rw [HL.out]; exact hlt
      obtain ⟨b1, o1, rfl, c0⟩ := ha _ _ (fvals_get k1)
      replace c0 : wr.cell? ⟨b1, o1 + k, none⟩ = some (.float .f32 xs[k]) := by rw [HW.out]; exact c0
      have hki : ((k : Nat) : Int) < (n : Int) := by omega
      have hxb : xs[k] < 2 ^ 32 := hb _ (List.getElem_mem _)
      have HG := Lib.hid (getD_get k1)
      have hself := self_eq xs[k]
      have HPN : Hid (isN .f32 xs[k] = true → pk xs (k + 1) = pk xs k) := Lib.hid (fun h => pk_nan (by rw [HG.out]; exact h))
      rcases hn : isN .f32 xs[k] with _ | _
      rotate_left
      · have HP := Lib.hid (HPN.out hn)
        rw [hn] at hself
        have HNN := Lib.hid hn; clear hn HPN
        generalize xs[k] = x at *
        have hself2 : (FloatKind.f32.format.order x x == some .eq) = false := hself
        clear hself
        go_wp2
        go_quiet (fail)
        go_wp2
        go_roundw
        case rel => exact ⟨k + 1, by omega, by go_num, by rw [HP.out], _, by rw [HW.out]; exact World.drewN_drewN ..⟩
        case measure => simp [intOf]; omega
      · rw [hn] at hself
        have hself2 : (FloatKind.f32.format.order xs[k] xs[k] == some .eq) = true := hself
        clear hself
        have HPY : Hid (betterB xs xs[k] (pk xs k) = true → pk xs (k + 1) = some k) := Lib.hid (fun h => pk_yes (by rw [HG.out]; exact hn) (by rw [HG.out]; exact h))
        have HPO : Hid (betterB xs xs[k] (pk xs k) = false → pk xs (k + 1) = pk xs k) := Lib.hid (fun h => pk_no (by rw [HG.out]; exact hn) (by rw [HG.out]; exact h))
        have HNN := Lib.hid hn; clear hn HPN
        rcases hp : pk xs k with _ | b
        · rw [hp] at HPY
          have HP := Lib.hid (HPY.out rfl)
          clear HPY HPO hp
          generalize xs[k] = x at *
          have hneg : decide (placeI none < 0) = true := rfl
          show Code.wp _ _ _ _ _
          simp only [placeI]
          go_wp2
          go_quiet (fail)
          go_wp2
          go_roundw
          case rel => exact ⟨k + 1, by omega, by go_num, by first | (rw [HP.out]; done) | (rw [HP.out]; rfl), _, by rw [HW.out]; exact World.drewN_drewN ..⟩
          case measure => simp [intOf]; omega
        · obtain ⟨hbk, hbn⟩ := pk_lt xs k b hp
          have b9 : b < xs.length := by omega
          rw [hp] at HPY HPO
          have e9 : xs.getD b 0 = xs[b] := getD_get b9
          rw [e9] at hbn
          obtain ⟨b1', o1', e1', c1⟩ := ha _ _ (fvals_get b9)
          cases e1'
          replace c1 : wr.cell? ⟨b1, o1 + b, none⟩ = some (.float .f32 xs[b]) := by rw [HW.out]; exact c1
          have hyb : xs[b] < 2 ^ 32 := hb _ (List.getElem_mem _)
          have hgt := rung_gt HNN.out hbn
          have hbe : betterB xs xs[k] (some b) = decide (rung Ieee.single xs[b] < rung Ieee.single xs[k]) := by show decide (rung Ieee.single (xs.getD b 0) < _) = _; rw [e9]
          rw [hbe] at HPY HPO
          rw [← hgt] at HPY HPO
          have hbi : ((b : Nat) : Int) < (n : Int) := by omega
          have hb0 : ¬ ((b : Nat) : Int) < 0 := by omega
          have hb1 : (0 : Int) ≤ (b : Int) := by omega
          have HBN := Lib.hid hbn; clear hbn hbe hgt e9 hp
          generalize xs[k] = x at *
          generalize xs[b] = y at *
          simp only [placeI]
          rcases hcmp : (FloatKind.f32.format.order (rung Ieee.single x) (rung Ieee.single y) == some .gt) with _ | _
          · have HP := Lib.hid (HPO.out hcmp)
            clear HPO HPY
            go_wp2
            go_quiet ((first | (go_at_call 86; exact quietSize x _ _ hxb HNN.out) | (go_at_call 86; exact quietSize y _ _ hyb HBN.out)))
            go_wp2
            go_roundw
            case rel => exact ⟨k + 1, by omega, by go_num, by first | (rw [HP.out]; done) | (rw [HP.out]; rfl), _, by rw [HW.out]; exact World.drewN_drewN ..⟩
            case measure => simp [intOf]; omega
          · have HP := Lib.hid (HPY.out hcmp)
            clear HPO HPY
            go_wp2
            go_quiet ((first | (go_at_call 86; exact quietSize x _ _ hxb HNN.out) | (go_at_call 86; exact quietSize y _ _ hyb HBN.out)))
            go_wp2
            go_roundw
            case rel => exact ⟨k + 1, by omega, by go_num, by first | (rw [HP.out]; done) | (rw [HP.out]; rfl), _, by rw [HW.out]; exact World.drewN_drewN ..⟩
            case measure => simp [intOf]; omega
    · obtain rfl : k = n := by omega
      go_wp2
      go_ret
      exact ⟨rfl, _, HW.out⟩

/-- the absolute value that the program holds: -1 where there is none -/
def MostOf (xs : List Nat) (p : Option Nat) (M : Nat) : Prop :=
  match p with
  | none => M = 13830554455654793216
  | some b => ∃ v, canon .f64 v = fconv .f32 .f64 (canon .f32 (xs.getD b 0)) ∧ M = rung Ieee.double v

theorem long_notN {v : Nat} (h : isN .f64 v = false) : isN .f64 (rung Ieee.double v) = false :=
  isN_of_le (k := .f64) (by show rung Ieee.double (rung Ieee.double v) ≤ _; rw [rung_rung]; exact isN_false h)

/-- the program's comparison -/
theorem most_gt {xs : List Nat} {p : Option Nat} {x v M : Nat} (hp : ∀ b, p = some b → isN .f32 (xs.getD b 0) = false) (hM : MostOf xs p M) (hv : canon .f64 v = fconv .f32 .f64 (canon .f32 x)) :
    (FloatKind.f64.format.order (rung Ieee.double v) M == some .gt) = (!isN .f32 x && betterB xs x p) := by
  rcases hn : isN .f32 x with _ | _
  · obtain ⟨v1, _, _, _⟩ := widen_facts hv hn
    cases p with
    | none =>
      unfold MostOf at hM
      subst hM
      rw [order_key .f64 (long_notN v1) (by decide)]
      have k1 : key FloatKind.f64.format (rung Ieee.double v) = rung Ieee.double v := key_rung _ _
      have k2 : key FloatKind.f64.format 13830554455654793216 = -4607182418800017408 := by decide
      rw [k1, k2, Int.compare_eq_gt.2 (by omega)]; rfl
    | some b =>
      obtain ⟨u, hu, rfl⟩ := hM
      have hb := hp b rfl
      obtain ⟨u1, _, _, _⟩ := widen_facts hu hb
      rw [order_key .f64 (long_notN v1) (long_notN u1)]
      have k1 : key FloatKind.f64.format (rung Ieee.double v) = rung Ieee.double v := key_rung _ _
      have k2 : key FloatKind.f64.format (rung Ieee.double u) = rung Ieee.double u := key_rung _ _
      rw [k1, k2, gt_compare]
      show _ = decide _
      rw [decide_eq_decide]
      exact widen_rung hu hv hb hn
  · have hnv : isN .f64 v = true := (isN_conv hv (fits_widen _) (by decide)).trans hn
    have hnr : isN .f64 (rung Ieee.double v) = true := (isN_iff .f64 _).2 (by show _ < rung Ieee.double (rung Ieee.double v); rw [rung_rung]; exact (isN_iff .f64 v).1 hnv)
    rw [order_nan_left hnr]; rfl

theorem pk_step (xs : List Nat) (k : Nat) : pk xs (k + 1) = if (!isN .f32 (xs.getD k 0) && betterB xs (xs.getD k 0) (pk xs k)) then some k else pk xs k := by
  conv => lhs; unfold pk

def peakG (wd hi : Int) (wb : Bool) (xs ys e x y : List Nat) : Option Nat := if fieldB wd hi wb xs ys e x y then pk e e.length else none
def peakI (p : Option Nat) : Int := ((p.getD 0 : Nat) : Int)
def peakV (e : List Nat) (p : Option Nat) : Nat := (p.map fun b => e.getD b 0).getD 0

def GaveP (w : World) (e : List Nat) (p : Option Nat) (r : Ending) (w' : World) : Prop :=
  ∃ z, r = .returned (.tuple #[.int .i64 (peakI p), .float .f32 z, .bool p.isSome]) ∧ canon .f32 z = canon .f32 (peakV e p) ∧ z < 2 ^ 32 ∧ Below w.heap.size w w'

theorem GaveP.none {w w' : World} {e : List Nat} (b : Below w.heap.size w w') : GaveP w e none (.returned (.tuple #[.int .i64 0, .float .f32 0, .bool false])) w' := ⟨0, rfl, rfl, by decide, b⟩
theorem GaveP.some {w w' : World} {e : List Nat} {k : Nat} (hk : k < e.length) (hb : ∀ z ∈ e, z < 2 ^ 32) (b : Below w.heap.size w w') : GaveP w e (some k) (.returned (.tuple #[.int .i64 (k : Int), .float .f32 e[k], .bool true])) w' :=
  ⟨e[k], rfl, by unfold peakV; simp only [Option.map_some, Option.getD_some]; rw [getD_get hk], hb _ (List.getElem_mem _), b⟩

set_option maxHeartbeats 8000000 in
set_option maxRecDepth 100000 in
theorem implPeakOfL (wd hi : Int) (wb : Bool) (a b : Option Addr) (ca cb : Nat) (xs ys : List Nat) (a0 a1 a2 : Option Addr) (c0 c1 c2 : Nat) (e x y : List Nat) (w : World) (ha : RowV w a (fvals xs)) (hb : RowV w b (fvals ys)) (qa : ∀ z ∈ xs, z < 2 ^ 32) (qb : ∀ z ∈ ys, z < 2 ^ 32) (hx : xs.length ≤ maxLen) (hy : ys.length ≤ maxLen) (h0 : RowV w a0 (fvals e)) (h1 : RowV w a1 (fvals x)) (h2 : RowV w a2 (fvals y)) (q0 : ∀ z ∈ e, z < 2 ^ 32) (q1 : ∀ z ∈ x, z < 2 ^ 32) (q2 : ∀ z ∈ y, z < 2 ^ 32) (m0 : e.length ≤ maxLen) (m1 : x.length ≤ maxLen) (m2 : y.length ≤ maxLen) :
    Calls Try.prog 87 #[.agg #[.int .i64 wd, .int .i64 hi, .bool wb, .slice a xs.length ca, .slice b ys.length cb], .agg #[.slice a0 e.length c0, .slice a1 x.length c1, .slice a2 y.length c2]] w (GaveP w e (peakG wd hi wb xs ys e x y)) := by
  rcases hfv : fieldB wd hi wb xs ys e x y with _ | _
  · skip
    have HR : Hid (peakG wd hi wb xs ys e x y = none) := Lib.hid (by unfold peakG; rw [hfv]; simp)
    rw [HR.out]
    have H_fb := Lib.hid hfv; clear hfv
    have X := Blk.new w #[.int .i64 wd, .int .i64 hi, .bool wb, .slice a xs.length ca, .slice b ys.length cb] 32
    have Y := Blk.new1 w (.cells #[.int .i64 wd, .int .i64 hi, .bool wb, .slice a xs.length ca, .slice b ys.length cb] 32) #[.slice a0 e.length c0, .slice a1 x.length c1, .slice a2 y.length c2] 29
    replace X := X.alloc (.cells #[.slice a0 e.length c0, .slice a1 x.length c1, .slice a2 y.length c2] 29)
    have HB : Hid (Below w.heap.size w ((w.alloc (.cells #[.int .i64 wd, .int .i64 hi, .bool wb, .slice a xs.length ca, .slice b ys.length cb] 32)).alloc (.cells #[.slice a0 e.length c0, .slice a1 x.length c1, .slice a2 y.length c2] 29))) := Lib.hid (((Below.refl w.heap.size w).alloc (by simp <;> omega) _).alloc (by simp <;> omega) _)
    go_enter Try.func87, Try.ntmps87
    go_wp2_with fail
    generalize ((w.alloc (.cells #[.int .i64 wd, .int .i64 hi, .bool wb, .slice a xs.length ca, .slice b ys.length cb] 32)).alloc (.cells #[.slice a0 e.length c0, .slice a1 x.length c1, .slice a2 y.length c2] 29)) = u1 at *
    refine (implIsField _ _ _ _ _ _ _ _ _ _ _ _ _ _ _ _ _ _ _ (ha.later HB.out) (hb.later HB.out) hx hy (h0.later HB.out) (h1.later HB.out) (h2.later HB.out) m0 m1 m2).mono ?_
    rintro r u2 ⟨rfl, q⟩
    replace X := X.later q
    replace Y := Y.later q
    replace HB := Lib.hid (HB.out.trans (q.mono HB.out.size))
    clear q
    rw [H_fb.out]
    obtain ⟨Xc, Xf⟩ := X.open
    obtain ⟨Yc, Yf⟩ := Y.open
    go_wp2
    go_ret3
    exact GaveP.none HB.out
  have HR : Hid (peakG wd hi wb xs ys e x y = pk e e.length) := Lib.hid (by unfold peakG; rw [hfv]; simp)
  rw [HR.out]
  obtain ⟨p1, _, l0, l1, l2⟩ := field_parts hfv
  obtain ⟨s1, s2, s3, s4, t1, t2⟩ := sides_mul (valid_sides p1)
  have he256 : e.length ≤ 256 := by omega
  have he9 : 9 ≤ e.length := by omega
  have H_fb := Lib.hid hfv; clear hfv p1 l0 l1 l2 t1 t2
  obtain ⟨bb, oo, rfl, hc00⟩ := h0 0 _ (fvals_get (show 0 < e.length by omega))
  clear hc00
  have X := Blk.new w #[.int .i64 wd, .int .i64 hi, .bool wb, .slice a xs.length ca, .slice b ys.length cb] 32
  have Y := Blk.new1 w (.cells #[.int .i64 wd, .int .i64 hi, .bool wb, .slice a xs.length ca, .slice b ys.length cb] 32) #[.slice (some ⟨bb, oo, none⟩) e.length c0, .slice a1 x.length c1, .slice a2 y.length c2] 29
  replace X := X.alloc (.cells #[.slice (some ⟨bb, oo, none⟩) e.length c0, .slice a1 x.length c1, .slice a2 y.length c2] 29)
  have HB : Hid (Below w.heap.size w ((w.alloc (.cells #[.int .i64 wd, .int .i64 hi, .bool wb, .slice a xs.length ca, .slice b ys.length cb] 32)).alloc (.cells #[.slice (some ⟨bb, oo, none⟩) e.length c0, .slice a1 x.length c1, .slice a2 y.length c2] 29))) := Lib.hid (((Below.refl w.heap.size w).alloc (by simp <;> omega) _).alloc (by simp <;> omega) _)
  go_enter Try.func87, Try.ntmps87
  go_wp2_with fail
  generalize ((w.alloc (.cells #[.int .i64 wd, .int .i64 hi, .bool wb, .slice a xs.length ca, .slice b ys.length cb] 32)).alloc (.cells #[.slice (some ⟨bb, oo, none⟩) e.length c0, .slice a1 x.length c1, .slice a2 y.length c2] 29)) = u1 at *
  refine (implIsField _ _ _ _ _ _ _ _ _ _ _ _ _ _ _ _ _ _ _ (ha.later HB.out) (hb.later HB.out) hx hy (h0.later HB.out) (h1.later HB.out) (h2.later HB.out) m0 m1 m2).mono ?_
  rintro r u2 ⟨rfl, q⟩
  replace X := X.later q
  replace Y := Y.later q
  replace HB := Lib.hid (HB.out.trans (q.mono HB.out.size))
  clear q
  rw [H_fb.out]
  obtain ⟨Xc, Xf⟩ := X.open
  obtain ⟨Yc, Yf⟩ := Y.open
  go_wp2
  go_loopw [7, 8, 9, 10, 11, 19] (fun av mv _ _ _ iv wr => ∃ k : Nat, k ≤ e.length ∧ iv = .int .i64 k ∧ av = .int .i64 (placeI (pk e k)) ∧ (∃ M, mv = .float .f64 M ∧ MostOf e (pk e k) M) ∧ ∃ m, wr = u2.drewN m) (fun _ _ _ _ _ iv _ => e.length - (intOf iv).toNat)
  case atStart => exact ⟨0, Nat.zero_le _, rfl, rfl, ⟨_, rfl, rfl⟩, 0, rfl⟩
  case round =>
    obtain ⟨k, hk, rfl, rfl, ⟨M, rfl, hM⟩, m, hw⟩ := hrel
    have HMO := Lib.hid hM; clear hM
    have Y1 := Y.drewN m
    rw [← hw] at Y1
    have HBW : Hid (Below w.heap.size w wr) := Lib.hid (by rw [hw]; exact below_drewN HB.out m)
    have HW := Lib.hid hw; clear hw
    clear Xc Xf Yc Yf
    obtain ⟨yc, yf⟩ := Y1.open
    by_cases hlt : k < e.length
    · skip
      obtain ⟨bx, ox, ex, d0⟩ := (h0.later HBW.out) _ _ (fvals_get hlt)
      cases ex
      have hki : ((k : Nat) : Int) < (e.length : Int) := by omega
      have hxb : e[k] < 2 ^ 32 := q0 _ (List.getElem_mem _)
      have HG := Lib.hid (getD_get hlt)
      have HST := Lib.hid (pk_step e k)
      have HPN : Hid (∀ b, pk e k = some b → isN .f32 (e.getD b 0) = false) := Lib.hid (fun b hb => (pk_lt e k b hb).2)
      rcases hc : (!isN .f32 e[k] && betterB e e[k] (pk e k)) with _ | _
      · skip
        have HC := Lib.hid hc; clear hc
        have HP : Hid (pk e (k + 1) = pk e k) := Lib.hid (by rw [HST.out, HG.out, HC.out]; rfl)
        go_wp2_with (first | (refine wpList_conv rfl 48 85 _ rfl .f32 .f64 (by decide) _ rfl Try.underlying48 Try.underlying85 hxb (fits_widen _) ?_; intro v nv hv gv; replace gv : v < 2 ^ 64 := gv; have hgt := (most_gt HPN.out HMO.out hv).trans HC.out; have HV := Lib.hid hv; clear hv) | (go_at_call 88; refine (absAny _ _ gv).mono ?_; rintro e9 w9 ⟨rfl, rfl⟩))
        go_roundw
        case rel => exact ⟨k + 1, by omega, by go_num, by rw [HP.out], ⟨_, rfl, by rw [HP.out]; exact HMO.out⟩, _, by rw [HW.out]; exact World.drewN_drewN ..⟩
        case measure => simp [intOf]; omega
      · skip
        have HC := Lib.hid hc; clear hc
        have HP : Hid (pk e (k + 1) = some k) := Lib.hid (by rw [HST.out, HG.out, HC.out]; rfl)
        go_wp2_with (first | (refine wpList_conv rfl 48 85 _ rfl .f32 .f64 (by decide) _ rfl Try.underlying48 Try.underlying85 hxb (fits_widen _) ?_; intro v nv hv gv; replace gv : v < 2 ^ 64 := gv; have hgt := (most_gt HPN.out HMO.out hv).trans HC.out; have HV := Lib.hid hv; clear hv) | (go_at_call 88; refine (absAny _ _ gv).mono ?_; rintro e9 w9 ⟨rfl, rfl⟩))
        go_roundw
        case rel => exact ⟨k + 1, by omega, by go_num, by rw [HP.out]; rfl, ⟨_, rfl, by rw [HP.out]; exact ⟨v, by rw [HG.out]; exact HV.out, rfl⟩⟩, _, by rw [HW.out]; exact World.drewN_drewN ..⟩
        case measure => simp [intOf]; omega
    · skip
      obtain rfl : k = e.length := by omega
      rcases hp : pk e e.length with _ | b9
      · skip
        simp only [placeI]
        go_wp2
        go_ret3
        rw [hp]; exact GaveP.none HBW.out
      · skip
        have hk9 := (pk_lt e _ _ hp).1
        obtain ⟨bx, ox, ex, d0⟩ := (h0.later HBW.out) _ _ (fvals_get hk9)
        cases ex
        have hk0 : (0 : Int) ≤ (b9 : Int) := by omega
        have hk1 : (b9 : Int) < (e.length : Int) := by omega
        have hk2 : ¬ (b9 : Int) < 0 := by omega
        simp only [placeI]
        go_wp2
        go_quiet (fail)
        go_wp2
        go_ret3
        rw [hp]; exact GaveP.some hk9 q0 (by rw [HW.out]; simp only [World.drewN_drewN]; exact below_drewN HB.out _)

end Go.Proofs.Ytedfbaeajofmnab

end
