/- Phasors: the function, its bounds, the walks of the program's and the model's, and the law. Conditions: none beyond those of each theorem. -/
import Derived.Test.YthihemfegjaenaaCplx
import Derived.Test.YthihemfegjaenaaAngle2
namespace Go.Proofs.Ythihemfegjaenaa
open Go Ieee Go.RowKit

def qr : Nat → Nat
  | 0 => 1023 * 2 ^ 52
  | 1 => 1022 * 2 ^ 52 + 2 ^ 51
  | 2 => 1022 * 2 ^ 52
  | 3 => 1021 * 2 ^ 52
  | _ => 0

theorem qr_mag : ∀ i, i < 4 → magOf Ieee.double (qr i) = magOf Ieee.double (qr (i + 1)) + magOf Ieee.double (1021 * 2 ^ 52) := by decide +kernel
theorem qr_le : ∀ i, i < 5 → qr i ≤ 1023 * 2 ^ 52 := by decide
theorem up_q : Up (1021 * 2 ^ 52) (some cQuarter) := ⟨_, rfl, by decide, .inl (by decide)⟩
theorem q_rung : rung Ieee.double cQuarter = 1021 * 2 ^ 52 := by decide
theorem inf23 : (1023 * 2 ^ 52 : Nat) < Ieee.double.infRung := by decide

theorem up_step {i r : Nat} (hi : i < 4) (hu : Up (qr i) (some r)) (hg : geO (some r) (some cQuarter) = true) : Up (qr (i + 1)) (fop .sub .f64 (some r) (some cQuarter)) := by
  have i1 : qr i < Ieee.double.infRung := Nat.lt_of_le_of_lt (qr_le i (by omega)) inf23
  have i2 : (1021 * 2 ^ 52 : Nat) < Ieee.double.infRung := Nat.lt_of_le_of_lt (by decide) inf23
  have i3 : qr (i + 1) < Ieee.double.infRung := Nat.lt_of_le_of_lt (qr_le (i + 1) (by omega)) inf23
  rw [geO_key (hu.isFin' i1) (up_q.isFin' i2), key_up hu, key_up up_q, q_rung] at hg
  have hg' := of_decide_eq_true hg
  have hm := hu.sv.2
  rw [qr_mag i hi] at hm
  exact Up.sub hu up_q i1 i2 (by rw [q_rung]; omega) _ i3 (by rw [q_rung]; exact hm)

theorem up_end {r : Nat} (hu : Up (qr 4) (some r)) : geO (some r) (some cQuarter) = false := by
  have i1 : qr 4 < Ieee.double.infRung := Nat.lt_of_le_of_lt (qr_le 4 (by omega)) inf23
  have i2 : (1021 * 2 ^ 52 : Nat) < Ieee.double.infRung := Nat.lt_of_le_of_lt (by decide) inf23
  rw [geO_key (hu.isFin' i1) (up_q.isFin' i2), key_up hu, key_up up_q, q_rung]
  obtain ⟨v, hv, h1, _⟩ := hu
  cases hv
  have h2 : rung Ieee.double r = 0 := Nat.le_zero.1 h1
  rw [h2]
  decide

def walkQ : Nat → Option Nat → Nat × Option Nat
  | 0, g => (0, g)
  | n + 1, g => if geO g (some cQuarter) then ((walkQ n (fop .sub .f64 g (some cQuarter))).1 + 1, (walkQ n (fop .sub .f64 g (some cQuarter))).2) else (0, g)

theorem walkQ_go {n : Nat} {g : Option Nat} (h : geO g (some cQuarter) = true) : walkQ (n + 1) g = ((walkQ n (fop .sub .f64 g (some cQuarter))).1 + 1, (walkQ n (fop .sub .f64 g (some cQuarter))).2) := by
  show (if geO g (some cQuarter) then _ else _) = _
  rw [if_pos h]
theorem walkQ_end {n : Nat} {g : Option Nat} (h : geO g (some cQuarter) = false) : walkQ (n + 1) g = (0, g) := by
  show (if geO g (some cQuarter) then _ else _) = _
  rw [h]; rfl

/-- where the loop stands -/
def Stand (G : Nat × Option Nat) (i r : Nat) : Prop := i ≤ 4 ∧ Up (qr i) (some r) ∧ canon .f64 r = some r ∧ r < 2 ^ 64 ∧ (walkQ (5 - i) (some r)).1 + i = G.1 ∧ (walkQ (5 - i) (some r)).2 = G.2

theorem Stand.start {o : Option Nat} {r : Nat} (hu : Up (1023 * 2 ^ 52) o) (hc : canon .f64 r = o) (hr : r < 2 ^ 64) : Stand (walkQ 5 o) 0 r := by
  obtain ⟨v, rfl, h1, h2⟩ := hu
  obtain ⟨rfl, _⟩ := canon_some hc
  exact ⟨by omega, ⟨v, rfl, h1, h2⟩, hc, hr, rfl, rfl⟩

theorem Stand.next {G : Nat × Option Nat} {i r v : Nat} (h : Stand G i r) (hg : geO (some r) (some cQuarter) = true) (hc : canon .f64 v = fop .sub .f64 (some r) (some cQuarter)) (hv : v < 2 ^ 64) : Stand G (i + 1) v ∧ i < 4 := by
  obtain ⟨h1, h2, h3, h4, h5, h6⟩ := h
  have hi : i < 4 := by
    rcases Nat.lt_or_ge i 4 with q | q
    · exact q
    · obtain rfl : i = 4 := by omega
      rw [up_end h2] at hg; cases hg
  have hs := up_step hi h2 hg
  obtain ⟨n, hn⟩ : ∃ n, 5 - i = n + 1 := ⟨4 - i, by omega⟩
  rw [hn, walkQ_go hg] at h5 h6
  obtain ⟨u, hu, _⟩ := hs
  have hs' := up_step hi h2 hg
  rw [hu] at hc hs' h5 h6
  obtain ⟨rfl, _⟩ := canon_some hc
  have e : 5 - (i + 1) = n := by omega
  refine ⟨⟨by omega, hs', hc, hv, ?_, ?_⟩, hi⟩
  · rw [e]; omega
  · rw [e]; exact h6

theorem Stand.stop {G : Nat × Option Nat} {i r : Nat} (h : Stand G i r) (hg : geO (some r) (some cQuarter) = false) : G = (i, some r) := by
  obtain ⟨h1, h2, h3, h4, h5, h6⟩ := h
  obtain ⟨n, hn⟩ : ∃ n, 5 - i = n + 1 := ⟨4 - i, by omega⟩
  rw [hn, walkQ_end hg] at h5 h6
  simp only [Nat.zero_add] at h5
  exact Prod.ext h5.symm h6.symm

theorem Stand.near {G : Nat × Option Nat} {i r : Nat} (h : Stand G i r) : rung Ieee.double r < 1075 * 2 ^ 52 := by
  obtain ⟨h1, ⟨v, hv, h2, _⟩, _⟩ := h
  cases hv
  have := qr_le i (by omega)
  omega

theorem Stand.less {G : Nat × Option Nat} {i r v : Nat} (h : Stand G i r) (hc : canon .f64 v = fop .sub .f64 (some cQuarter) (some r)) : rung Ieee.double v < 1075 * 2 ^ 52 ∧ fop .sub .f64 (some cQuarter) (some r) = some v := by
  obtain ⟨h1, ⟨u, hu, h2, _⟩, _⟩ := h
  cases hu
  have h3 := qr_le i (by omega)
  have hr : Bd 1023 (some r) := fun x hx => by cases hx; omega
  have hq : Bd 1023 (some cQuarter) := fun x hx => by cases hx; decide
  have hb := Bd.sub hq hr (by omega) (by omega)
  have hf := sub_eq (k := .f64) (hq.isFin' (by omega)) (hr.isFin' (by omega))
  rw [hf] at hc
  obtain ⟨e, _⟩ := canon_some hc
  rw [hf, e]
  refine ⟨?_, rfl⟩
  have := hb v (by rw [hf, e])
  omega

def sineP : Option Nat → Option Nat
  | some v => sineO v
  | none => none
def turnO (q : Nat) (C S : Option Nat) : Option Nat × Option Nat :=
  match q with
  | 1 => (fop .sub .f64 (some 0) S, C)
  | 2 => (fop .sub .f64 (some 0) C, fop .sub .f64 (some 0) S)
  | 3 => (S, fop .sub .f64 (some 0) C)
  | _ => (C, S)
def phasorO (t : Nat) : Option Nat × Option Nat :=
  turnO (walkQ 5 (partO t)).1 (sineP (fop .sub .f64 (some cQuarter) (walkQ 5 (partO t)).2)) (sineP (walkQ 5 (partO t)).2)

theorem phasor_at {t i r v : Nat} (h : walkQ 5 (partO t) = (i, some r)) (hv : fop .sub .f64 (some cQuarter) (some r) = some v) : phasorO t = turnO i (sineO v) (sineO r) := by
  unfold phasorO
  rw [h]
  show turnO i (sineP (fop .sub .f64 (some cQuarter) (some r))) (sineO r) = _
  rw [hv]; rfl

theorem bd_turn {q : Nat} {C S : Option Nat} (hC : Bd 1124 C) (hS : Bd 1124 S) : Bd 1149 (turnO q C S).1 ∧ Bd 1149 (turnO q C S).2 := by
  have h0 : Bd 1124 (some 0) := fun v hv => by cases hv; exact Nat.zero_le _
  have c1 := (Bd.sub h0 hC (by omega) (by omega)).mono (q' := 1149) (by omega)
  have c2 := (Bd.sub h0 hS (by omega) (by omega)).mono (q' := 1149) (by omega)
  have c3 := hC.mono (q' := 1149) (by omega)
  have c4 := hS.mono (q' := 1149) (by omega)
  unfold turnO
  split
  · exact ⟨c2, c3⟩
  · exact ⟨c1, c2⟩
  · exact ⟨c4, c1⟩
  · exact ⟨c3, c4⟩

/-! ### The program's -/

theorem implTurn (c s q : Nat) (w : World) (hc : c < 2 ^ 64) (hs : s < 2 ^ 64) (hq : q ≤ 4) : Calls Try.prog 158 #[.float .f64 c, .float .f64 s, .int .i64 (q : Int)] w (CRet .f64 w (turnO q (canon .f64 c) (canon .f64 s)).1 (turnO q (canon .f64 c) (canon .f64 s)).2) := by
  have hcase : q = 0 ∨ q = 1 ∨ q = 2 ∨ q = 3 ∨ q = 4 := by omega
  rcases hcase with rfl | rfl | rfl | rfl | rfl
  · go_enter Try.func158, Try.ntmps158
    go_wp2
    go_ret
    exact ⟨c, s, 0, rfl, rfl, rfl, rfl, hc, hs⟩
  · have toka : True := trivial
    go_enter Try.func158, Try.ntmps158
    go_wp2_with (first | (have _t := toka; refine wpList_arith rfl _ _ _ _ _ rfl rfl .f64 _ _ rfl rfl ?_; intro va na hc ha; have Ha := Lib.hid hc; clear hc _t toka))
    go_ret
    exact ⟨va, c, _, rfl, rfl, (by rw [Ha.out]; rfl), rfl, ha, hc⟩
  · have toka : True := trivial; have tokb : True := trivial
    go_enter Try.func158, Try.ntmps158
    go_wp2_with (first | (have _t := toka; refine wpList_arith rfl _ _ _ _ _ rfl rfl .f64 _ _ rfl rfl ?_; intro va na hc ha; have Ha := Lib.hid hc; clear hc _t toka) | (have _t := tokb; refine wpList_arith rfl _ _ _ _ _ rfl rfl .f64 _ _ rfl rfl ?_; intro vb nb hc hb; have Hb := Lib.hid hc; clear hc _t tokb))
    go_ret
    exact ⟨va, vb, _, rfl, rfl, (by rw [Ha.out]; rfl), (by rw [Hb.out]; rfl), ha, hb⟩
  · have toka : True := trivial
    go_enter Try.func158, Try.ntmps158
    go_wp2_with (first | (have _t := toka; refine wpList_arith rfl _ _ _ _ _ rfl rfl .f64 _ _ rfl rfl ?_; intro va na hc ha; have Ha := Lib.hid hc; clear hc _t toka))
    go_ret
    exact ⟨s, va, _, rfl, rfl, rfl, (by rw [Ha.out]; rfl), hs, ha⟩
  · go_enter Try.func158, Try.ntmps158
    go_wp2
    go_ret
    exact ⟨c, s, 0, rfl, rfl, rfl, rfl, hc, hs⟩

theorem implPhasorNan (t : Nat) (w : World) (ht : t < 2 ^ 64) (h : finB .f64 t = false) : Calls Try.prog 147 #[.float .f64 t] w (CRet .f32 w none none) := by
  have toka : True := trivial; have tokb : True := trivial
  go_enter Try.func147, Try.ntmps147
  go_wp2_with (first | (go_at_call 141; refine (implFiniteLong _ _ ht).mono ?_; rintro e w' ⟨he, rfl⟩; rw [h] at he; subst he) | (go_at_call 142; have _t := toka; refine (implNan _).mono ?_; rintro e w' ⟨y, k, rfl, rfl, hy, hyl⟩; have HY := Lib.hid hy; clear hy _t toka) | (go_at_call 142; have _t := tokb; refine (implNan _).mono ?_; rintro e w' ⟨z, m, rfl, rfl, hz, hzl⟩; have HZ := Lib.hid hz; clear hz _t tokb))
  go_ret
  exact ⟨y, z, _, rfl, rfl, HY.out, HZ.out, hyl, hzl⟩

theorem implPhasorFar (t : Nat) (w : World) (ht : t < 2 ^ 64) (h : finB .f64 t = true) (hf : 1075 * 2 ^ 52 ≤ rung Ieee.double t) : Calls Try.prog 147 #[.float .f64 t] w (CRet .f32 w (some 1065353216) (some 0)) := by
  have hff := Lib.hid (decide_eq_true hf)
  clear hf
  go_enter Try.func147, Try.ntmps147
  go_wp2_with (first | (go_at_call 141; refine (implFiniteLong _ _ ht).mono ?_; rintro e w' ⟨he, rfl⟩; rw [h] at he; subst he) | (go_at_call 143; refine (implFar _ _ ht (fin_of_B h)).mono ?_; rintro e w' ⟨he, rfl⟩; rw [hff.out] at he; subst he))
  go_ret
  exact ⟨_, _, 0, rfl, rfl, by decide +kernel, by decide +kernel, by decide, by decide⟩

set_option maxHeartbeats 1000000 in
theorem implPhasorNear (t : Nat) (w : World) (ht : t < 2 ^ 64) (hn : rung Ieee.double t < 1075 * 2 ^ 52) : Calls Try.prog 147 #[.float .f64 t] w (CRet .f32 w (fconv .f64 .f32 (phasorO t).1) (fconv .f64 .f32 (phasorO t).2)) := by
  have h : finB .f64 t = true := decide_eq_true (Nat.lt_trans hn r52)
  have hff := Lib.hid (decide_eq_false (Nat.not_le_of_lt hn))
  go_enter Try.func147, Try.ntmps147
  go_wp2_with (first | (go_at_call 141; refine (implFiniteLong _ _ ht).mono ?_; rintro e w' ⟨he, rfl⟩; rw [h] at he; subst he) | (go_at_call 143; refine (implFar _ _ ht (fin_of_B h)).mono ?_; rintro e w' ⟨he, rfl⟩; rw [hff.out] at he; subst he) | (go_at_call 155; refine (implPart _ _ hn).mono ?_; rintro e w' ⟨p, np, rfl, rfl, hp, hpl⟩; have hst := Stand.start (up_part hn) hp hpl; clear hp))
  go_loopw [3, 4] (fun f k wr => ∃ i r : Nat, Stand (walkQ 5 (partO t)) i r ∧ f = .float .f64 r ∧ k = .int .i64 (i : Int) ∧ ∃ m, wr = w.drewN m) (fun _ k _ => 5 - (intOf k).toNat)
  case atStart => exact ⟨0, p, hst, rfl, rfl, _, rfl⟩
  case round =>
    obtain ⟨i, r, hs, rfl, rfl, m, rfl⟩ := hrel
    have hi4 : i ≤ 4 := hs.1
    have hcr := Lib.hid hs.2.2.1
    cases hg : geO (some r) (some cQuarter)
    · have t1 : (FloatKind.f64.format.order r 4598175219545276416 == some .gt || FloatKind.f64.format.order r 4598175219545276416 == some .eq) = false := tGe hcr.out rfl hg
      have hw := Lib.hid (hs.stop hg)
      have HS := Lib.hid hs
      clear hg hst hs
      have toka : True := trivial; have tokx : True := trivial; have toky : True := trivial
      go_wp2_with (first | (have _t := toka; refine wpList_arith rfl _ _ _ _ _ rfl rfl .f64 _ _ rfl rfl ?_; intro va na hc ha; have Ha := Lib.hid hc; clear hc _t toka) | (go_at_call 145; have _t := tokx; have hl := HS.out.less (v := va) (by rw [Ha.out, hcr.out]; rfl); refine (implLong _ _ hl.1).mono ?_; rintro e w' ⟨c, nc, rfl, rfl, hc, hcl⟩; have HC := Lib.hid hc; have HV := Lib.hid hl.2; have bc := Lib.hid (bd_sineOf (up_part hl.1)); clear hc hl _t tokx) | (go_at_call 145; have _t := toky; refine (implLong _ _ HS.out.near).mono ?_; rintro e w' ⟨s, ns, rfl, rfl, hc, hsl⟩; have HD := Lib.hid hc; have bs := Lib.hid (bd_sineOf (up_part HS.out.near)); clear hc _t toky) | (go_at_call 158; refine (implTurn _ _ _ _ hcl hsl hi4).mono ?_; rintro e w' ⟨u, x, nu, rfl, rfl, h1, h2, hu, hx⟩; have hb := bd_turn (q := i) bc.out bs.out; rw [HC.out, HD.out] at h1 h2; have fu := hb.1.narrows h1; have fx := hb.2.narrows h2; have H1 := Lib.hid h1; have H2 := Lib.hid h2; clear h1 h2 hb) | (go_at_call 157; refine (implNarrowC _ _ _ hu hx fu fx).mono ?_; rintro e w' ⟨y, z, nz, rfl, rfl, g1, g2, hy, hz⟩; have G1 := Lib.hid g1; have G2 := Lib.hid g2; clear g1 g2))
      go_ret
      have hph := phasor_at hw.out HV.out
      exact ⟨y, z, _, rfl, rfl, by rw [G1.out, H1.out, hph], by rw [G2.out, H2.out, hph], hy, hz⟩
    · have t1 : (FloatKind.f64.format.order r 4598175219545276416 == some .gt || FloatKind.f64.format.order r 4598175219545276416 == some .eq) = true := tGe hcr.out rfl hg
      have HS := Lib.hid hs
      have HG := Lib.hid hg
      clear hg hst hs
      have hib : (i : Int) ≤ 4 := by omega
      have toka : True := trivial
      go_wp2_with (first | (have _t := toka; refine wpList_arith rfl _ _ _ _ _ rfl rfl .f64 _ _ rfl rfl ?_; intro va na hc ha; have Ha := Lib.hid hc; clear hc _t toka; replace ha : va < 2 ^ 64 := ha))
      have hnx := HS.out.next HG.out (v := va) (by rw [Ha.out, hcr.out]; rfl) ha
      go_roundw
      case rel => exact ⟨i + 1, va, hnx.1, rfl, by go_num, _, rfl⟩
      case measure => show 5 - ((i : Int) + 1).toNat < 5 - (i : Int).toNat; have := hnx.2; omega

end Go.Proofs.Ythihemfegjaenaa
