/- The walks of the law on tenths of decibels. Conditions: none beyond those of each theorem. -/
import Derived.Test.YtdcpkndkehdhiadLogFn
import Derived.Test.YtdcpkndkehdhiadLog2
import Derived.Test.YtdcpkndkehdhiadFloor
namespace Go.Proofs.Ytdcpkndkehdhiad
open Go Ieee Go.RowKit

theorem pos_of_sgn {v : Nat} (hv : v < 2 ^ 64) (h : sgn Ieee.double v = false) : rung Ieee.double v = v := by
  have h1 : v / 2 ^ 63 % 2 ≠ 1 := by
    have : (v / 2 ^ 63 % 2 == 1) = false := h
    simpa using this
  show v % 2 ^ 63 = v
  omega

def tenI (r : Nat) : Int := wholeOf (floorE ((tenO r).getD 0))
def notPos (b : Nat) : Bool := negB .f32 b || decide (rung Ieee.single b = 0)
def tenV (b : Nat) : Value := if finB .f32 b = true ∧ notPos b = false then .tuple #[.int .i64 (tenI (wid b)), .bool true] else .tuple #[.int .i64 0, .bool false]

theorem leq_zero {b : Nat} (h : finB .f32 b = true) : (FloatKind.f32.format.order b 0 == some .lt || FloatKind.f32.format.order b 0 == some .eq) = notPos b := by
  rw [zero_lt .f32 (fin_of_B h), zero_eq .f32 (fin_of_B h)]; rfl

theorem wid_pos {b : Nat} (hb : b < 2 ^ 32) (hf : finB .f32 b = true) (hp : notPos b = false) : 2 ^ 52 ≤ wid b ∧ wid b < 2046 * 2 ^ 52 := by
  obtain ⟨h1, hn, hfin, hl, _⟩ := wid_facts hb hf
  obtain ⟨_, h2, _, h3⟩ := widen_facts h1 hn
  unfold notPos at hp
  rw [Bool.or_eq_false_iff] at hp
  have z : rung Ieee.single b ≠ 0 := of_decide_eq_false hp.2
  have k : ¬ key Ieee.single b < 0 := of_decide_eq_false hp.1
  have hs : sgn Ieee.single b = false := by
    cases hs : sgn Ieee.single b
    · rfl
    · exfalso
      unfold key at k
      rw [hs, if_pos rfl] at k
      omega
  have hr := pos_of_sgn hl (h2.trans hs)
  have hnz : rung Ieee.double (wid b) ≠ 0 := fun e => z (h3.1 e)
  have hlow := widen_normal h1 hn hnz
  rw [hr] at hlow
  refine ⟨hlow, ?_⟩
  have hfin' : rung Ieee.double (wid b) < Ieee.double.infRung := hfin
  rcases widen_bound h1 with q | q
  · rw [hr] at q; omega
  · omega

theorem ten_facts {r : Nat} (h1 : 2 ^ 52 ≤ r) (h2 : r < 2046 * 2 ^ 52) : ∃ x, tenO r = some x ∧ isFin .f64 x ∧ rung Ieee.double (floorE x) < 1075 * 2 ^ 52 ∧ tenI r = wholeOf (floorE x) := by
  obtain ⟨hb, x, hx⟩ := fn_ten h1 h2
  have h3 := hb x hx
  refine ⟨x, hx, fin_of h3 (by omega), floor_bd (by omega), ?_⟩
  unfold tenI; rw [hx]; rfl

theorem implTen (b : Nat) (w : World) (hb : b < 2 ^ 32) : Calls Try.prog 12 #[.float .f32 b] w fun e w' => e = .returned (tenV b) ∧ ∃ n, w' = w.drewN n := by
  cases hf : finB .f32 b
  · have hv : tenV b = .tuple #[.int .i64 0, .bool false] := by unfold tenV; rw [if_neg (fun q => by rw [hf] at q; cases q.1)]
    rw [hv]
    go_enter Try.func12, Try.ntmps12
    go_wp2_with (go_at_call 36; refine (implFinite _ _ hb).mono ?_; rintro e w' ⟨he, n, rfl⟩; rw [hf] at he; subst he)
    go_ret2
    exact ⟨rfl, _, rfl⟩
  · have hle := leq_zero hf
    cases hp : notPos b
    · have hv : tenV b = .tuple #[.int .i64 (tenI (wid b)), .bool true] := by unfold tenV; rw [if_pos ⟨hf, hp⟩]
      rw [hv]
      rw [hp] at hle
      obtain ⟨r1, r2⟩ := wid_pos hb hf hp
      have ry := run_widen hb hf
      obtain ⟨x, hx, FX, hfl, hti⟩ := ten_facts r1 r2
      have hcv := fun w' => run_convert_float_int (P := Try.prog) w' 22 2 .f64 .i64 (floorE x) (wholeOf (floorE x)) (by rw [Try.underlying22]; rfl) Try.underlying2 (whole_conv hfl)
      rw [hti]
      have HX := Lib.hid hx
      clear hx hti hv hp
      have toka : True := trivial; have tokb : True := trivial
      go_enter Try.func12, Try.ntmps12
      go_wp2_with (first | (go_at_call 36; refine (implFinite _ _ hb).mono ?_; rintro e w' ⟨he, n, rfl⟩; rw [hf] at he; subst he) | (go_at_call 38; refine (implLog _ _ r1 r2).mono ?_; rintro e w' ⟨s, ns, rfl, rfl, hc, hs⟩; have HS := Lib.hid hc; clear hc) | (have _t := toka; refine wpList_arith rfl _ _ _ _ _ rfl rfl .f64 _ _ rfl rfl ?_; intro va na hc ha; have Ha := Lib.hid hc; clear hc _t toka) | (have _t := tokb; refine wpList_arith rfl _ _ _ _ _ rfl rfl .f64 _ _ rfl rfl ?_; intro vb nb hc hb; have Hb := Lib.hid hc; clear hc _t tokb; obtain ⟨rfl, _⟩ := canon_some (show canon .f64 vb = some x from by rw [Hb.out, Ha.out, HS.out, ← HX.out]; rfl)) | (go_at_call 37; refine (floorAll _ _ FX).mono ?_; rintro e w' ⟨rfl, rfl⟩))
      go_ret2
      exact ⟨rfl, _, rfl⟩
    · have hv : tenV b = .tuple #[.int .i64 0, .bool false] := by unfold tenV; rw [if_neg (fun q => by rw [hp] at q; cases q.2)]
      rw [hv]
      rw [hp] at hle
      go_enter Try.func12, Try.ntmps12
      go_wp2_with (go_at_call 36; refine (implFinite _ _ hb).mono ?_; rintro e w' ⟨he, n, rfl⟩; rw [hf] at he; subst he)
      go_ret2
      exact ⟨rfl, _, rfl⟩

theorem specTen1 (b : Nat) (w : World) (hb : b < 2 ^ 32) (hf : finB .f32 b = true) (hp : notPos b = false) : Calls Try.prog 35 #[.float .f32 b] w fun e w' => e = .returned (.int .i64 (tenI (wid b))) ∧ ∃ n, w' = w.drewN n := by
  obtain ⟨r1, r2⟩ := wid_pos hb hf hp
  have ry := run_widen hb hf
  obtain ⟨x, hx, FX, hfl, hti⟩ := ten_facts r1 r2
  have hcv := fun w' => run_convert_float_int (P := Try.prog) w' 22 2 .f64 .i64 (floorE x) (wholeOf (floorE x)) (by rw [Try.underlying22]; rfl) Try.underlying2 (whole_conv hfl)
  rw [hti]
  have HX := Lib.hid hx
  clear hx hti hp
  have toka : True := trivial; have tokb : True := trivial
  go_enter Try.func35, Try.ntmps35
  go_wp2_with (first | (go_at_call 54; refine (specLog _ _ r1 r2).mono ?_; rintro e w' ⟨s, ns, rfl, rfl, hc, hs⟩; have HS := Lib.hid hc; clear hc) | (have _t := toka; refine wpList_arith rfl _ _ _ _ _ rfl rfl .f64 _ _ rfl rfl ?_; intro va na hc ha; have Ha := Lib.hid hc; clear hc _t toka) | (have _t := tokb; refine wpList_arith rfl _ _ _ _ _ rfl rfl .f64 _ _ rfl rfl ?_; intro vb nb hc hb; have Hb := Lib.hid hc; clear hc _t tokb; obtain ⟨rfl, _⟩ := canon_some (show canon .f64 vb = some x from by rw [Hb.out, Ha.out, HS.out, ← HX.out]; rfl)) | (go_at_call 37; refine (floorAll _ _ FX).mono ?_; rintro e w' ⟨rfl, rfl⟩))
  go_ret
  exact ⟨rfl, _, rfl⟩

theorem specTen (b : Nat) (w : World) (hb : b < 2 ^ 32) : Calls Try.prog 11 #[.float .f32 b] w fun e w' => e = .returned (tenV b) ∧ ∃ n, w' = w.drewN n := by
  cases hf : finB .f32 b
  · have hv : tenV b = .tuple #[.int .i64 0, .bool false] := by unfold tenV; rw [if_neg (fun q => by rw [hf] at q; cases q.1)]
    rw [hv]
    go_enter Try.func11, Try.ntmps11
    go_wp2_with (go_at_call 34; refine (specFinite _ _).mono ?_; rintro e w' ⟨he, n, rfl⟩; rw [hf] at he; subst he)
    go_ret2
    exact ⟨rfl, _, rfl⟩
  · have hle := leq_zero hf
    cases hp : notPos b
    · have hv : tenV b = .tuple #[.int .i64 (tenI (wid b)), .bool true] := by unfold tenV; rw [if_pos ⟨hf, hp⟩]
      rw [hv]
      rw [hp] at hle
      clear hv
      go_enter Try.func11, Try.ntmps11
      go_wp2_with (first | (go_at_call 34; refine (specFinite _ _).mono ?_; rintro e w' ⟨he, n, rfl⟩; rw [hf] at he; subst he) | (go_at_call 35; refine (specTen1 _ _ hb hf hp).mono ?_; rintro e w' ⟨rfl, m, rfl⟩))
      go_ret2
      exact ⟨rfl, _, rfl⟩
    · have hv : tenV b = .tuple #[.int .i64 0, .bool false] := by unfold tenV; rw [if_neg (fun q => by rw [hp] at q; cases q.2)]
      rw [hv]
      rw [hp] at hle
      go_enter Try.func11, Try.ntmps11
      go_wp2_with (go_at_call 34; refine (specFinite _ _).mono ?_; rintro e w' ⟨he, n, rfl⟩; rw [hf] at he; subst he)
      go_ret2
      exact ⟨rfl, _, rfl⟩

theorem fnExactTenthsOf_walk (b : Nat) (w : World) (hb : b < 2 ^ 32) :
    Calls Try.prog 4 #[.float .f32 b] w fun e w' => e = .returned (.bool true) ∧ Below w.heap.size w w' := by
  obtain ⟨n, ok, hv⟩ : ∃ (n : Int) (ok : Bool), tenV b = .tuple #[.int .i64 n, .bool ok] := by
    unfold tenV
    split
    · exact ⟨_, _, rfl⟩
    · exact ⟨_, _, rfl⟩
  go_enter Try.func4, Try.ntmps4
  go_wp2_with (first | (go_at_call 11; refine (specTen _ _ hb).mono ?_; rintro e w' ⟨rfl, k, rfl⟩; rw [hv]) | (go_at_call 12; refine (implTen _ _ hb).mono ?_; rintro e w' ⟨rfl, m, rfl⟩; rw [hv]))
  go_ret
  exact ⟨rfl, below_drawn _ _⟩
end Go.Proofs.Ytdcpkndkehdhiad
