/- Several texts in one: facts on floats, lists, memory and the functions that the theorems beside this text use. Conditions: none beyond those of each theorem. -/
import Derived.Test.YtkcododhfliobaaBu0
import Derived.Test.YtkcododhfliobaaBu1
import Derived.Test.YtkcododhfliobaaBu3

set_option linter.unusedVariables false

section

namespace Go.Proofs.Ytkcododhfliobaa
open Go Ieee Go.RowKit
set_option linter.unusedVariables false

theorem widen_mag {b v q : Nat} (hq : q = 925) (h : canon .f64 v = fconv .f32 .f64 (canon .f32 b)) (hf : rung Ieee.single b < Ieee.single.infRung) : magOf Ieee.double (rung Ieee.double v) = magOf Ieee.single (rung Ieee.single b) * 2 ^ q := by
  have hn : isN .f32 b = false := isN_of_le (k := .f32) (Nat.le_of_lt hf)
  have hn' : (FloatKind.f32.decode b).isNaN = false := hn
  have hv := fits_widen b
  rw [canon_of_not hn'] at h
  have hs : (floatToFloatBits .f32 b .f64).isSome = true := by
    rcases hv with hv | hv | hv
    · cases hv
    · rw [hn'] at hv; cases hv
    · exact hv
  obtain ⟨r, hr⟩ := Option.isSome_iff_exists.1 hs
  have h' : canon .f64 v = some r := h.trans hr
  obtain ⟨rfl, hnv⟩ := canon_some h'
  unfold floatToFloatBits at hr
  rw [if_neg (by decide)] at hr
  have hd : FloatKind.f32.decode b = Ieee.single.read b := rfl
  rw [hd] at hr hn'
  rcases read_cases Ieee.single b with ⟨h1, m, p, e, v1⟩ | ⟨h1, _, e⟩ | ⟨h1, e⟩ | h1
  · rw [e] at hr
    simp only at hr
    split at hr
    · cases hr
    · cases hr
      have hb := read_bounds e
      rw [← v1]
      by_cases h0 : m = 0
      · subst h0
        have z : FloatKind.f64.encode (.number (sgn Ieee.single b) 0 (Ieee.single.leastPlace + (p : Int))) = Ieee.double.word (sgn Ieee.single b) 0 := rfl
        obtain ⟨g1, g2⟩ := word_split Ieee.double (sgn Ieee.single b) (r := 0) (by decide)
        rw [z, show rung Ieee.double (Ieee.double.word (sgn Ieee.single b) 0) = 0 from g1, magOf_zero]
        rw [Nat.zero_mul, Nat.zero_mul]
      · have hw := widen_read (sgn Ieee.single b) h0 (e := Ieee.single.leastPlace + (p : Int)) (by have : Ieee.single.binade = 2 ^ 23 := rfl; omega) (by have : Ieee.single.leastPlace = -149 := rfl; omega) (by have : Ieee.single.leastPlace = -149 := rfl; have : Ieee.single.infRung / Ieee.single.binade = 255 := rfl; omega)
        have z : FloatKind.f64.encode (.number (sgn Ieee.single b) m (Ieee.single.leastPlace + (p : Int))) = Ieee.double.nearest (sgn Ieee.single b) m (Ieee.single.leastPlace + (p : Int)) := rfl
        rw [z]
        generalize Ieee.double.nearest (sgn Ieee.single b) m (Ieee.single.leastPlace + (p : Int)) = r at *
        rcases read_cases Ieee.double r with ⟨g1, m', p', e', v'⟩ | ⟨g1, _, e'⟩ | ⟨g1, e'⟩ | g1
        · rw [e'] at hw
          injection hw with w1 w2 w3
          rw [← v', w2]
          have hl1 : Ieee.single.leastPlace = -149 := rfl
          have hl2 : Ieee.double.leastPlace = -1074 := rfl
          have hlog : m.log2 < 24 := (Nat.log2_lt h0).2 (by have : Ieee.single.binade = 2 ^ 23 := rfl; omega)
          have hp : (52 - m.log2) + p' = p + q := by omega
          rw [Nat.mul_assoc, Nat.mul_assoc, ← Nat.pow_add, ← Nat.pow_add, hp]
        · rw [e'] at hw; cases hw
        · rw [e'] at hw; cases hw
        · exact absurd g1 (by decide)
  · omega
  · omega
  · exact absurd h1 (by decide)

/-- widening keeps how great two numbers are -/
theorem widen_rung {b c v u : Nat} (hb : canon .f64 v = fconv .f32 .f64 (canon .f32 b)) (hc : canon .f64 u = fconv .f32 .f64 (canon .f32 c)) (nb : isN .f32 b = false) (nc : isN .f32 c = false) : rung Ieee.double v < rung Ieee.double u ↔ rung Ieee.single b < rung Ieee.single c := by
  obtain ⟨b1, _, b3, _⟩ := widen_facts hb nb
  obtain ⟨c1, _, c3, _⟩ := widen_facts hc nc
  have e1 : rung Ieee.double v ≤ Ieee.double.infRung := isN_false b1
  have e2 : rung Ieee.double u ≤ Ieee.double.infRung := isN_false c1
  have e3 : rung Ieee.single b ≤ Ieee.single.infRung := isN_false nb
  have e4 : rung Ieee.single c ≤ Ieee.single.infRung := isN_false nc
  by_cases f1 : rung Ieee.single b < Ieee.single.infRung
  · by_cases f2 : rung Ieee.single c < Ieee.single.infRung
    · obtain ⟨q, hq⟩ : ∃ q : Nat, q = 925 := ⟨_, rfl⟩
      rw [← magOf_lt_iff Ieee.double, widen_mag hq hb f1, widen_mag hq hc f2]
      exact (Nat.mul_lt_mul_right (Nat.two_pow_pos _)).trans (magOf_lt_iff Ieee.single)
    · have := b3.2 f1
      have : ¬ rung Ieee.double u < Ieee.double.infRung := fun q => f2 (c3.1 q)
      omega
  · have : ¬ rung Ieee.double v < Ieee.double.infRung := fun q => f1 (b3.1 q)
    omega

/-- 0 less a number -/
theorem zero_sub {x : Nat} (hx : isFin .f32 x) : fop .sub .f32 (some 0) (some x) = some (if rung Ieee.single x = 0 then 0 else Ieee.single.word (!sgn Ieee.single x) (rung Ieee.single x)) := by
  rw [sub_eq (k := .f32) (x := 0) (y := x) (by unfold isFin; decide) hx]
  have s0 : sv Ieee.single 0 = 0 := by decide
  show some (if sv Ieee.single 0 - sv Ieee.single x = 0 then _ else Ieee.single.nearest (decide (sv Ieee.single 0 - sv Ieee.single x < 0)) (sv Ieee.single 0 - sv Ieee.single x).natAbs Ieee.single.leastPlace) = _
  rw [s0]
  by_cases h0 : rung Ieee.single x = 0
  · have : sv Ieee.single x = 0 := by unfold sv; rw [h0, magOf_zero]; simp
    rw [this, if_pos h0]
    rfl
  · have hm := magOf_ne Ieee.single h0
    have hfx : rung Ieee.single x < Ieee.single.infRung := hx
    have key : ∀ (s : Bool) (q : Int), q.natAbs = magOf Ieee.single (rung Ieee.single x) → decide (q < 0) = s → Ieee.single.nearest (decide (q < 0)) q.natAbs Ieee.single.leastPlace = Ieee.single.word s (rung Ieee.single x) := by
      intro s q hq hs
      rw [hs, hq, nearest_rung _ _ hm, rungOf_mag _ h0, Nat.min_eq_left (Nat.le_of_lt hfx)]
    rw [if_neg h0]
    unfold sv
    cases hs : sgn Ieee.single x
    · simp only [Bool.false_eq_true, if_false, Bool.not_false]
      rw [if_neg (by omega)]
      rw [key true _ (by omega) (by simp; omega)]
    · simp only [if_true, Bool.not_true]
      rw [if_neg (by omega)]
      rw [key false _ (by omega) (by simp)]

/-- the absolute value, no bits of a NaN -/
def sizeO (x : Nat) : Option Nat := if isN .f32 x then none else some (rung Ieee.single x)

theorem word_false (r : Nat) : Ieee.single.word false r = r := by simp [Format.word]

theorem size_neg {x : Nat} (hb : x < 2 ^ 32) (h : leB x 0 = true) : fop .sub .f32 (some 0) (canon .f32 x) = sizeO x := by
  have hn : isN .f32 x = false := by
    rcases hn : isN .f32 x with _ | _
    · rfl
    · unfold leB at h; rw [order_nan_left hn] at h; cases h
  have hn' : (FloatKind.f32.decode x).isNaN = false := hn
  have hk : key Ieee.single x ≤ 0 := by
    unfold leB at h
    rw [order_key .f32 hn (by decide)] at h
    have k0 : key FloatKind.f32.format 0 = 0 := by decide
    rw [k0] at h
    rcases Int.lt_trichotomy (key FloatKind.f32.format x) 0 with q | q | q
    · exact Int.le_of_lt q
    · exact Int.le_of_eq q
    · rw [Int.compare_eq_gt.2 q] at h; cases h
  rw [canon_of_not hn']
  unfold sizeO
  rw [hn]
  simp only [Bool.false_eq_true, if_false]
  by_cases hf : rung Ieee.single x < Ieee.single.infRung
  · rw [zero_sub hf]
    by_cases h0 : rung Ieee.single x = 0
    · rw [if_pos h0, h0]
    · rw [if_neg h0]
      have hs : sgn Ieee.single x = true := by
        unfold key at hk
        rcases hs : sgn Ieee.single x with _ | _
        · rw [hs] at hk; simp at hk; omega
        · rfl
      rw [hs]
      show some (Ieee.single.word false _) = _
      rw [word_false]
  · have e3 : rung Ieee.single x ≤ Ieee.single.infRung := isN_false hn
    have hr : rung Ieee.single x = 2139095040 := by have : Ieee.single.infRung = 2139095040 := rfl; omega
    have hs : sgn Ieee.single x = true := by
      unfold key at hk
      rcases hs : sgn Ieee.single x with _ | _
      · rw [hs] at hk; simp at hk; omega
      · rfl
    have hx : x = 4286578688 := by
      unfold rung at hr
      unfold sgn at hs
      have : Ieee.single.signWeight = 2147483648 := rfl
      rw [this] at hr hs
      simp at hs
      omega
    subst hx
    decide +kernel

theorem size_pos {x : Nat} (hb : x < 2 ^ 32) (h : leB x 0 = false) : canon .f32 x = sizeO x := by
  unfold sizeO
  rcases hn : isN .f32 x with _ | _
  · have hn' : (FloatKind.f32.decode x).isNaN = false := hn
    rw [canon_of_not hn']
    simp only [Bool.false_eq_true, if_false, Option.some.injEq]
    have hk : 0 < key Ieee.single x := by
      unfold leB at h
      rw [order_key .f32 hn (by decide)] at h
      have k0 : key FloatKind.f32.format 0 = 0 := by decide
      rw [k0] at h
      rcases Int.lt_trichotomy (key FloatKind.f32.format x) 0 with q | q | q
      · rw [Int.compare_eq_lt.2 q] at h; cases h
      · rw [q] at h; cases h
      · exact q
    have hs : sgn Ieee.single x = false := by
      rcases hs : sgn Ieee.single x with _ | _
      · rfl
      · unfold key at hk; rw [hs] at hk; simp at hk; omega
    unfold sgn at hs
    unfold rung
    have : Ieee.single.signWeight = 2147483648 := rfl
    rw [this] at hs ⊢
    simp at hs
    omega
  · exact canon_none.2 hn

set_option maxHeartbeats 800000 in
theorem specSize (x : Nat) (w : World) (hb : x < 2 ^ 32) : Calls Try.prog 92 #[.float .f32 x] w fun e w' => ∃ s n, e = .returned (.float .f32 s) ∧ w' = w.drewN n ∧ canon .f32 s = sizeO x ∧ s < 2 ^ 32 := by
  rcases h : leB x 0 with _ | _
  · have hp := size_pos hb h
    unfold leB at h
    go_enter Try.func92, Try.ntmps92
    go_wp2
    go_ret
    exact ⟨x, 0, rfl, rfl, hp, hb⟩
  · have hp := size_neg hb h
    have HP := Lib.hid hp; clear hp
    unfold leB at h
    go_enter Try.func92, Try.ntmps92
    go_wp2_with (refine wpList_arith rfl _ _ _ _ _ rfl rfl .f32 _ _ rfl rfl ?_; intro v n hc hv; have HC := Lib.hid hc; clear hc)
    go_ret
    exact ⟨v, n, rfl, rfl, by rw [HC.out, canon_zero]; exact HP.out, hv⟩
end Go.Proofs.Ytkcododhfliobaa

end

section

namespace Go.Proofs.Ytkcododhfliobaa
open Go Ieee Go.RowKit
set_option linter.unusedVariables false

/-- the number is at least l in absolute value -/
def arrB (l x : Nat) : Bool := !isN .f32 x && decide (rung Ieee.single l ≤ rung Ieee.single x)
def arrC (n : Nat) (l : Nat) : Bool := decide (n ≤ 64) && (finB .f32 l && !leB l 0)
def arrG (l : Nat) (xs : List Nat) : Option Nat := if arrC xs.length l then xs.findIdx? (arrB l) else none
def arrI (l : Nat) (xs : List Nat) : Int := ((arrG l xs).getD 0 : Nat)
def arrOk (l : Nat) (xs : List Nat) : Bool := (arrG l xs).isSome

theorem arr_no {l : Nat} {xs : List Nat} (h : arrC xs.length l = false) : arrI l xs = 0 ∧ arrOk l xs = false := by
  have : arrG l xs = none := by unfold arrG; rw [h]; rfl
  unfold arrI arrOk; rw [this]; exact ⟨rfl, rfl⟩

theorem arr_none {l : Nat} {xs : List Nat} (h : ∀ j (hj : j < xs.length), arrB l xs[j] = false) : arrI l xs = 0 ∧ arrOk l xs = false := by
  have : arrG l xs = none := by
    unfold arrG
    split
    · rw [List.findIdx?_eq_none_iff]
      intro x hx
      obtain ⟨i, hi, rfl⟩ := List.getElem_of_mem hx
      exact h i hi
    · rfl
  unfold arrI arrOk; rw [this]; exact ⟨rfl, rfl⟩

theorem arr_some {l : Nat} {xs : List Nat} (hc : arrC xs.length l = true) (k : Nat) (hk : k < xs.length) (h : ∀ j (hj : j < xs.length), j < k → arrB l xs[j] = false) (hx : arrB l xs[k] = true) : arrI l xs = (k : Int) ∧ arrOk l xs = true := by
  have : arrG l xs = some k := by
    unfold arrG
    rw [if_pos hc, List.findIdx?_eq_some_iff_getElem]
    exact ⟨hk, hx, fun j hj => by rw [h j (by omega) hj]; simp⟩
  unfold arrI arrOk; rw [this]; exact ⟨rfl, rfl⟩

theorem pos_key {l : Nat} (hf : finB .f32 l = true) (hl : leB l 0 = false) : isN .f32 l = false ∧ sgn Ieee.single l = false ∧ key Ieee.single l = rung Ieee.single l := by
  have hf' : rung Ieee.single l < Ieee.single.infRung := by unfold finB at hf; exact of_decide_eq_true hf
  have hn : isN .f32 l = false := isN_of_le (k := .f32) (Nat.le_of_lt hf')
  have hk : 0 < key Ieee.single l := by
    unfold leB at hl
    rw [order_key .f32 hn (by decide)] at hl
    have k0 : key FloatKind.f32.format 0 = 0 := by decide
    rw [k0] at hl
    rcases Int.lt_trichotomy (key FloatKind.f32.format l) 0 with q | q | q
    · rw [Int.compare_eq_lt.2 q] at hl; cases hl
    · rw [q] at hl; cases hl
    · exact q
  have hs : sgn Ieee.single l = false := by
    rcases hs : sgn Ieee.single l with _ | _
    · rfl
    · unfold key at hk; rw [hs] at hk; simp at hk; omega
  exact ⟨hn, hs, by unfold key; rw [hs]; rfl⟩

theorem ge_compare (a b : Nat) : (some (compare (a : Int) (b : Int)) == some Ordering.gt || some (compare (a : Int) (b : Int)) == some Ordering.eq) = decide (b ≤ a) := by
  rcases Int.lt_trichotomy (a : Int) b with q | q | q
  · rw [Int.compare_eq_lt.2 q, decide_eq_false (by omega)]; rfl
  · have e : a = b := by omega
    subst e
    rw [decide_eq_true (Nat.le_refl _)]; simp
  · rw [Int.compare_eq_gt.2 q, decide_eq_true (by omega)]; rfl

theorem spec_ge {l x s : Nat} (hf : finB .f32 l = true) (hl : leB l 0 = false) (hs : canon .f32 s = sizeO x) : (FloatKind.f32.format.order s l == some .gt || FloatKind.f32.format.order s l == some .eq) = arrB l x := by
  obtain ⟨h1, h2, h3⟩ := pos_key hf hl
  unfold sizeO at hs
  unfold arrB
  rcases hn : isN .f32 x with _ | _
  · rw [hn] at hs
    simp only [Bool.false_eq_true, if_false] at hs
    obtain ⟨e, hns⟩ := canon_some hs
    have hns' : isN .f32 s = false := hns
    rw [order_key .f32 hns' h1, ← e]
    show (some (compare (key Ieee.single (rung Ieee.single x)) (key Ieee.single l)) == some Ordering.gt || some (compare (key Ieee.single (rung Ieee.single x)) (key Ieee.single l)) == some Ordering.eq) = _
    rw [key_rung, h3, ge_compare]; rfl
  · rw [hn] at hs
    simp only [if_true] at hs
    have hns : isN .f32 s = true := canon_none.1 hs
    rw [order_nan_left hns]; rfl

theorem impl_ge {l x v u : Nat} (hf : finB .f32 l = true) (hl : leB l 0 = false) (hv : canon .f64 v = fconv .f32 .f64 (canon .f32 x)) (hu : canon .f64 u = fconv .f32 .f64 (canon .f32 l)) : (FloatKind.f64.format.order (rung Ieee.double v) u == some .gt || FloatKind.f64.format.order (rung Ieee.double v) u == some .eq) = arrB l x := by
  obtain ⟨h1, h2, h3⟩ := pos_key hf hl
  obtain ⟨u1, u2, _, _⟩ := widen_facts hu h1
  unfold arrB
  rcases hn : isN .f32 x with _ | _
  · obtain ⟨v1, _, _, _⟩ := widen_facts hv hn
    have e1 : rung Ieee.double v ≤ Ieee.double.infRung := isN_false v1
    have hnv : isN .f64 (rung Ieee.double v) = false := isN_of_le (k := .f64) (by show rung Ieee.double (rung Ieee.double v) ≤ _; rw [rung_rung]; exact e1)
    rw [order_key .f64 hnv u1]
    show (some (compare (key Ieee.double (rung Ieee.double v)) (key Ieee.double u)) == some Ordering.gt || some (compare (key Ieee.double (rung Ieee.double v)) (key Ieee.double u)) == some Ordering.eq) = _
    have ku : key Ieee.double u = rung Ieee.double u := by unfold key; rw [u2, h2]; rfl
    rw [key_rung, ku, ge_compare]
    have hw := widen_rung hv hu hn h1
    show _ = decide _
    rw [decide_eq_decide]
    omega
  · have hnv : isN .f64 v = true := (isN_conv hv (fits_widen _) (by decide)).trans hn
    have hnr : isN .f64 (rung Ieee.double v) = true := (isN_iff .f64 _).2 (by show _ < rung Ieee.double (rung Ieee.double v); rw [rung_rung]; exact (isN_iff .f64 v).1 hnv)
    rw [order_nan_left hnr]; rfl

set_option maxHeartbeats 1600000 in
theorem specArrivalOf (a : Option Addr) (ca : Nat) (xs : List Nat) (l : Nat) (w : World) (ha : RowV w a (fvals xs)) (hm : xs.length ≤ maxLen) (hb : ∀ x ∈ xs, x < 2 ^ 32) (hl : l < 2 ^ 32) :
    Calls Try.prog 53 #[.slice a xs.length ca, .float .f32 l] w fun e w' => e = .returned (.tuple #[.int .i64 (arrI l xs), .bool (arrOk l xs)]) ∧ ∃ n, w' = w.drewN n := by
  unfold maxLen at hm
  by_cases h64 : xs.length ≤ 64
  · skip
    rcases h1 : finB .f32 l with _ | _
    · skip
      obtain ⟨e1, e2⟩ := arr_no (l := l) (xs := xs) (by unfold arrC; rw [h1]; simp)
      rw [e1, e2]; have hn : (xs.length : Int) ≤ 64 := by omega
      go_enter Try.func53, Try.ntmps53
      go_wp2_with (go_at_call 91; refine (specFinite _ _).mono ?_; rintro e w' ⟨rfl, nq, rfl⟩)
      go_ret2
      exact ⟨rfl, _, rfl⟩
    rcases h2 : leB l 0 with _ | _
    rotate_left
    · skip
      obtain ⟨e1, e2⟩ := arr_no (l := l) (xs := xs) (by unfold arrC; rw [h2]; simp)
      rw [e1, e2]; have hn : (xs.length : Int) ≤ 64 := by omega
      unfold leB at h2
      go_enter Try.func53, Try.ntmps53
      go_wp2_with (go_at_call 91; refine (specFinite _ _).mono ?_; rintro e w' ⟨rfl, nq, rfl⟩)
      go_ret2
      exact ⟨rfl, _, rfl⟩
    have hc : arrC xs.length l = true := by unfold arrC; rw [h1, h2, decide_eq_true h64]; rfl
    have HC := Lib.hid hc; clear hc
    have H1 := Lib.hid h1; have H2 := Lib.hid h2
    have HE : Hid (∀ k, (hk : k < xs.length) → (∀ j (hj : j < xs.length), j < k → arrB l xs[j] = false) → arrB l xs[k] = true → arrI l xs = (k : Int) ∧ arrOk l xs = true) := Lib.hid (fun k hk hj hx => arr_some HC.out k hk hj hx)
    have HN : Hid ((∀ j (hj : j < xs.length), arrB l xs[j] = false) → arrI l xs = 0 ∧ arrOk l xs = false) := Lib.hid arr_none
    generalize arrI l xs = ri at *; generalize arrOk l xs = rb at *
    unfold leB at h2
    generalize hlen : xs.length = n at hm h64 ⊢
    have HL := Lib.hid hlen; clear hlen
    have hn : (n : Int) ≤ 64 := by omega
    go_enter Try.func53, Try.ntmps53
    go_wp2_with (go_at_call 91; refine (specFinite _ _).mono ?_; rintro e w' ⟨rfl, nq, rfl⟩)
    go_loopw [6] (fun i wr => ∃ k : Nat, k ≤ n ∧ i = .int .i64 k ∧ (∀ j (hj : j < xs.length), j < k → arrB l xs[j] = false) ∧ ∃ m, wr = w.drewN m) (fun i _ => n - (intOf i).toNat)
    case atStart => exact ⟨0, Nat.zero_le _, rfl, fun j _ hj => by omega, _, rfl⟩
    case round =>
      obtain ⟨k, hk, rfl, hall, m, rfl⟩ := hrel
      have HA := Lib.hid hall; clear hall
      by_cases hlt : k < n
      · skip
        have k1 : k < xs.length := by rw [HL.out]; exact hlt
        obtain ⟨ba, oa, rfl, c1⟩ := ha k _ (fvals_get k1)
        have hki : ((k : Nat) : Int) < (n : Int) := by omega
        have hxb : xs[k] < 2 ^ 32 := hb _ (List.getElem_mem _)
        by_cases hx : arrB l xs[k] = true
        rotate_left
        · skip
          replace hx : arrB l xs[k] = false := by simpa using hx
          have HX := Lib.hid hx; clear hx
          go_wp2_with (go_at_call 92; refine (specSize _ _ hxb).mono ?_; rintro e w' ⟨s, nq, rfl, rfl, hs, _⟩; have hg := (spec_ge H1.out H2.out hs).trans HX.out; clear hs)
          go_roundw
          case rel =>
            refine ⟨k + 1, by omega, by go_num, fun j hj hjk => ?_, _, rfl⟩
            by_cases e : j = k
            · subst e; exact HX.out
            · exact HA.out j hj (by omega)
          case measure => simp [intOf]; omega
        · skip
          have HX := Lib.hid hx; clear hx
          obtain ⟨rfl, rfl⟩ := HE.out k k1 HA.out HX.out
          go_wp2_with (go_at_call 92; refine (specSize _ _ hxb).mono ?_; rintro e w' ⟨s, nq, rfl, rfl, hs, _⟩; have hg := (spec_ge H1.out H2.out hs).trans HX.out; clear hs)
          go_ret2
          exact ⟨rfl, _, rfl⟩
      · skip
        obtain rfl : k = n := by omega
        obtain ⟨rfl, rfl⟩ := HN.out (fun j hj => HA.out j hj (by rw [← HL.out]; exact hj))
        go_wp2
        go_ret2
        exact ⟨rfl, _, rfl⟩
  · skip
    obtain ⟨e1, e2⟩ := arr_no (l := l) (xs := xs) (by unfold arrC; rw [decide_eq_false h64]; rfl)
    rw [e1, e2]; have hn : ¬ (xs.length : Int) ≤ 64 := by omega
    go_enter Try.func53, Try.ntmps53
    go_wp2
    go_ret2
    exact ⟨rfl, 0, rfl⟩

set_option maxHeartbeats 1600000 in
theorem implArrivalOf (a : Option Addr) (ca : Nat) (xs : List Nat) (l : Nat) (w : World) (ha : RowV w a (fvals xs)) (hm : xs.length ≤ maxLen) (hb : ∀ x ∈ xs, x < 2 ^ 32) (hl : l < 2 ^ 32) :
    Calls Try.prog 55 #[.slice a xs.length ca, .float .f32 l] w fun e w' => e = .returned (.tuple #[.int .i64 (arrI l xs), .bool (arrOk l xs)]) ∧ ∃ n, w' = w.drewN n := by
  unfold maxLen at hm
  by_cases h64 : xs.length ≤ 64
  · skip
    rcases h1 : finB .f32 l with _ | _
    · skip
      obtain ⟨e1, e2⟩ := arr_no (l := l) (xs := xs) (by unfold arrC; rw [h1]; simp)
      rw [e1, e2]; have hn : (xs.length : Int) ≤ 64 := by omega
      go_enter Try.func55, Try.ntmps55
      go_wp2_with (go_at_call 58; refine (implFinite _ _ hl).mono ?_; rintro e w' ⟨rfl, nq, rfl⟩)
      go_ret2
      exact ⟨rfl, _, rfl⟩
    rcases h2 : leB l 0 with _ | _
    rotate_left
    · skip
      obtain ⟨e1, e2⟩ := arr_no (l := l) (xs := xs) (by unfold arrC; rw [h2]; simp)
      rw [e1, e2]; have hn : (xs.length : Int) ≤ 64 := by omega
      unfold leB at h2
      go_enter Try.func55, Try.ntmps55
      go_wp2_with (go_at_call 58; refine (implFinite _ _ hl).mono ?_; rintro e w' ⟨rfl, nq, rfl⟩)
      go_ret2
      exact ⟨rfl, _, rfl⟩
    have hc : arrC xs.length l = true := by unfold arrC; rw [h1, h2, decide_eq_true h64]; rfl
    have HC := Lib.hid hc; clear hc
    have H1 := Lib.hid h1; have H2 := Lib.hid h2
    have HE : Hid (∀ k, (hk : k < xs.length) → (∀ j (hj : j < xs.length), j < k → arrB l xs[j] = false) → arrB l xs[k] = true → arrI l xs = (k : Int) ∧ arrOk l xs = true) := Lib.hid (fun k hk hj hx => arr_some HC.out k hk hj hx)
    have HN : Hid ((∀ j (hj : j < xs.length), arrB l xs[j] = false) → arrI l xs = 0 ∧ arrOk l xs = false) := Lib.hid arr_none
    generalize arrI l xs = ri at *; generalize arrOk l xs = rb at *
    unfold leB at h2
    generalize hlen : xs.length = n at hm h64 ⊢
    have HL := Lib.hid hlen; clear hlen
    have hn : (n : Int) ≤ 64 := by omega
    go_enter Try.func55, Try.ntmps55
    go_wp2_with (go_at_call 58; refine (implFinite _ _ hl).mono ?_; rintro e w' ⟨rfl, nq, rfl⟩)
    go_loopw [6, 7, 22] (fun _ _ i wr => ∃ k : Nat, k ≤ n ∧ i = .int .i64 k ∧ (∀ j (hj : j < xs.length), j < k → arrB l xs[j] = false) ∧ ∃ m, wr = w.drewN m) (fun _ _ i _ => n - (intOf i).toNat)
    case atStart => exact ⟨0, Nat.zero_le _, rfl, fun j _ hj => by omega, _, rfl⟩
    case round =>
      obtain ⟨k, hk, rfl, hall, m, rfl⟩ := hrel
      have HA := Lib.hid hall; clear hall
      by_cases hlt : k < n
      · skip
        have k1 : k < xs.length := by rw [HL.out]; exact hlt
        obtain ⟨ba, oa, rfl, c1⟩ := ha k _ (fvals_get k1)
        have hki : ((k : Nat) : Int) < (n : Int) := by omega
        have hxb : xs[k] < 2 ^ 32 := hb _ (List.getElem_mem _)
        by_cases hx : arrB l xs[k] = true
        rotate_left
        · skip
          replace hx : arrB l xs[k] = false := by simpa using hx
          have HX := Lib.hid hx; clear hx
          have tk1 : True := trivial; have tk2 : True := trivial
          go_wp2_with (first | (have _t := tk1; refine wpList_conv rfl 22 32 _ rfl .f32 .f64 (by decide) _ rfl Try.underlying22 Try.underlying32 hxb (fits_widen _) ?_; intro v nv hv gv; replace gv : v < 2 ^ 64 := gv; have HV := Lib.hid hv; clear hv _t tk1) | (go_at_call 93; refine (absAny _ _ gv).mono ?_; rintro e w' ⟨rfl, rfl⟩) | (have _t := tk2; refine wpList_conv rfl 22 32 _ rfl .f32 .f64 (by decide) _ rfl Try.underlying22 Try.underlying32 hl (fits_widen _) ?_; intro u nu hu gu; have hg := (impl_ge H1.out H2.out HV.out hu).trans HX.out; clear hu _t tk2))
          go_roundw
          case rel =>
            refine ⟨k + 1, by omega, by go_num, fun j hj hjk => ?_, _, rfl⟩
            by_cases e : j = k
            · subst e; exact HX.out
            · exact HA.out j hj (by omega)
          case measure => simp [intOf]; omega
        · skip
          have HX := Lib.hid hx; clear hx
          obtain ⟨rfl, rfl⟩ := HE.out k k1 HA.out HX.out
          have tk1 : True := trivial; have tk2 : True := trivial
          go_wp2_with (first | (have _t := tk1; refine wpList_conv rfl 22 32 _ rfl .f32 .f64 (by decide) _ rfl Try.underlying22 Try.underlying32 hxb (fits_widen _) ?_; intro v nv hv gv; replace gv : v < 2 ^ 64 := gv; have HV := Lib.hid hv; clear hv _t tk1) | (go_at_call 93; refine (absAny _ _ gv).mono ?_; rintro e w' ⟨rfl, rfl⟩) | (have _t := tk2; refine wpList_conv rfl 22 32 _ rfl .f32 .f64 (by decide) _ rfl Try.underlying22 Try.underlying32 hl (fits_widen _) ?_; intro u nu hu gu; have hg := (impl_ge H1.out H2.out HV.out hu).trans HX.out; clear hu _t tk2))
          go_ret2
          exact ⟨rfl, _, rfl⟩
      · skip
        obtain rfl : k = n := by omega
        obtain ⟨rfl, rfl⟩ := HN.out (fun j hj => HA.out j hj (by rw [← HL.out]; exact hj))
        go_wp2
        go_ret2
        exact ⟨rfl, _, rfl⟩
  · skip
    obtain ⟨e1, e2⟩ := arr_no (l := l) (xs := xs) (by unfold arrC; rw [decide_eq_false h64]; rfl)
    rw [e1, e2]; have hn : ¬ (xs.length : Int) ≤ 64 := by omega
    go_enter Try.func55, Try.ntmps55
    go_wp2
    go_ret2
    exact ⟨rfl, 0, rfl⟩

set_option maxHeartbeats 1000000 in
theorem fnExactArrivalOf_walk (a : Option Addr) (cap : Nat) (xs : List Nat) (l : Nat) (w : World) (hr : RowV w a (fvals xs)) (hb : ∀ x ∈ xs, x < 2 ^ 32) (hm : xs.length ≤ maxLen) (hl : l < 2 ^ 32) :
    Calls Try.prog 12 #[.slice a xs.length cap, .float .f32 l] w fun e w' => e = .returned (.bool true) ∧ Below w.heap.size w w' := by
  have hmm := hm
  unfold maxLen at hmm
  by_cases hbig : (1048576 : Int) < xs.length
  · go_enter Try.func12, Try.ntmps12
    go_wp2
    go_ret
    exact ⟨rfl, Below.refl _ _⟩
  · have hn : xs.length ≤ 1048576 := by omega
    go_enter Try.func12, Try.ntmps12
    go_wp2_with fail
    refine (toF32s _ _ _ _ hr hn).mono ?_
    rintro e w1 ⟨rfl, own1, bel1⟩
    have OWN1 := Lib.hid own1
    have BEL1 := Lib.hid bel1
    clear own1 bel1
    go_wp2_with fail
    refine (specArrivalOf _ _ _ _ _ (RowV.of_owned OWN1.out) hm hb hl).mono ?_
    rintro e w' ⟨rfl, n1, rfl⟩
    go_wp2_with fail
    refine (toF32s _ _ _ _ ((hr.later BEL1.out).drawn n1) hn).mono ?_
    rintro e w2 ⟨rfl, own2, bel2⟩
    simp only [World.heap_drewN] at own2 bel2 ⊢
    have OWN2 := Lib.hid own2
    have b2 : Below w.heap.size w w2 := (below_drewN BEL1.out n1).trans (bel2.mono BEL1.out.size)
    have BEL2 := Lib.hid b2
    clear own2 bel2 b2
    go_wp2_with fail
    refine (implArrivalOf _ _ _ _ _ (RowV.of_owned OWN2.out) hm hb hl).mono ?_
    rintro e w' ⟨rfl, n2, rfl⟩
    go_wp2_with fail
    refine (toF32s _ _ _ _ ((hr.later BEL2.out).drawn _) hn).mono ?_
    rintro e w3 ⟨rfl, own3, bel3⟩
    simp only [World.heap_drewN] at own3 bel3 ⊢
    have OWN3 := Lib.hid own3
    have row2 : RowV w3 (some ⟨w1.heap.size, 0, none⟩) (fvals xs) := RowV.later (w := w2.drewN _) ((RowV.of_owned OWN2.out).drawn _) bel3
    have b3 : Below w.heap.size w w3 := (below_drewN BEL2.out _).trans (bel3.mono BEL2.out.size)
    have BEL3 := Lib.hid b3
    have ROW2 := Lib.hid row2
    clear own3 bel3 b3 row2
    go_wp2_with fail
    refine (eqF32s _ _ _ _ _ _ _ ROW2.out (RowV.of_owned OWN3.out) (SameF.refl hb) hm).mono ?_
    rintro e w' ⟨rfl, n6, rfl⟩
    go_wp2
    go_ret
    exact ⟨rfl, below_drewN BEL3.out _⟩

end Go.Proofs.Ytkcododhfliobaa

end
