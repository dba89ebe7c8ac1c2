/- Several texts in one: facts on floats, lists, memory and the functions that the theorems beside this text use. Conditions: none beyond those of each theorem. -/
import Derived.Test.YthihemfegjaenaaCallV
import Derived.Test.YthihemfegjaenaaChg
import Derived.Test.YthihemfegjaenaaBu5
import Derived.Test.YthihemfegjaenaaBu14
import Derived.Test.YthihemfegjaenaaBu7
import Derived.Test.YthihemfegjaenaaDepth
import Derived.Test.YthihemfegjaenaaSine4
import Derived.Test.YthihemfegjaenaaBu15

set_option linter.unusedVariables false

section

namespace Go.Proofs.Ythihemfegjaenaa
open Go Ieee Go.RowKit
set_option linter.unusedVariables false
set_option linter.unusedSimpArgs false

def toldC (n : Nat) (G : Nat → Option Nat) : List (Option Nat) := (List.range n).map G

theorem chgC_told (n : Nat) (G : Nat → Option Nat) : chgC (fun _ => true) G (List.replicate n 0) = toldC n G := by
  unfold chgC toldC; rw [List.length_replicate]; rfl

theorem zeros_small (n : Nat) : ∀ z ∈ List.replicate n 0, z < 2 ^ 32 := fun z hz => by rw [List.eq_of_mem_replicate hz]; decide

set_option maxHeartbeats 8000000 in
set_option maxRecDepth 100000 in
theorem implListBy (n : Nat) (fc : FuncId) (r1 k1 : Array Value) (G : Nat → Option Nat) (w : World) (n256 : n ≤ 256) (gC : IsGo fc)
    (hC : ∀ i : Nat, i < n → ∀ w', Below w.heap.size w w' → Calls Try.prog fc (r1 ++ #[.int .i64 (i : Int)] ++ k1) w' fun e w'' => ∃ v, e = .returned (.float .f32 v) ∧ canon .f32 v = G i ∧ v < 2 ^ 32 ∧ Below w'.heap.size w' w'') :
    Calls Try.prog 91 #[.int .i64 n, .func (.func fc) r1 k1] w fun e w' => ∃ g L, e = .returned (.slice (some ⟨g, 0, none⟩) n n) ∧ OwnV w' w.heap.size (some ⟨g, 0, none⟩) (fvals L) ∧ L.length = n ∧ Is L (toldC n G) ∧ Below w.heap.size w w' := by
  have HT : Hid (∀ L, ChgTo (fun _ => true) G (List.replicate n 0) n L → Is L (toldC n G) ∧ L.length = n) := Lib.hid (fun L h => ⟨by rw [← chgC_told]; exact h.all (by simp) (by simpa using n256), by rw [h.len]; simp⟩)
  have HST := Lib.hid (ChgTo.start (p := fun _ => true) (G := G) (zeros_small n))
  have HO0 := Lib.hid (own_zeros w n 36)
  have HB0 : Hid (Below w.heap.size w (w.alloc (.cells (List.replicate n (Value.float .f32 0)).toArray 36))) := Lib.hid (below_new _ _)
  have HC := Lib.hid hC; clear hC
  have hmk := make_f32s n (by omega)
  have hn0 : (0 : Int) ≤ (n : Int) := Int.natCast_nonneg n
  go_enter Try.func91, Try.ntmps91
  go_wp2
  go_loopw [10] (fun iv wr => ∃ (k : Nat) (L : List Nat), k ≤ n ∧ iv = .int .i64 k ∧ ChgTo (fun _ => true) G (List.replicate n 0) k L ∧ OwnV wr w.heap.size (some ⟨w.heap.size, 0, none⟩) (fvals L) ∧ Below w.heap.size w wr) (fun iv _ => n - (intOf iv).toNat)
  case atStart => exact ⟨0, _, Nat.zero_le _, rfl, HST.out, by simpa using HO0.out, by simpa using HB0.out⟩
  case round =>
    obtain ⟨k, L, hk, rfl, hM, hown, hb⟩ := hrel
    replace HO := Lib.hid hown; have HB := Lib.hid hb; have HM := Lib.hid hM; clear hown hb hM HST HO0 HB0 hmk
    by_cases hlt : k < n
    · skip
      have kx : k < (List.replicate n 0).length := by simpa using hlt
      have kL : k < L.length := by rw [HM.out.len]; exact kx
      have hki : (k : Int) < (n : Int) := by omega
      have HYES : Hid (∀ v, v < 2 ^ 32 → canon .f32 v = G k → ChgTo (fun _ => true) G (List.replicate n 0) (k + 1) (L.set k v)) := Lib.hid (fun v hv hc => HM.out.yes kx rfl hv hc)
      clear kx
      go_wp2_with (refine wpList_callV fc r1 k1 rfl gC [.int .i64 (k : Int)] rfl _ (HC.out k hlt _ HB.out) ?_; rintro e v5 ⟨z, rfl, hz, hzl, q⟩; refine ⟨_, rfl, ?_⟩; have HN := Lib.hid (HYES.out z hzl hz); replace HO := Lib.hid (HO.out.later q); obtain ⟨cs, tt, _, hblk, hvv⟩ := own_some HO.out; obtain ⟨gcc, gcf⟩ := hblk.open; have f0 : v5.cell? ⟨w.heap.size, k, none⟩ = some _ := (gcc _).trans (hvv k _ (fvals_get kL)); have GF := gcf k; clear gcc gcf hvv hblk hz)
      have hp := own_put HO.out k (.float .f32 z) (by rw [fvals_length]; exact kL)
      rw [fvals_set] at hp
      have HP := Lib.hid hp; clear hp
      go_roundw
      case rel => exact ⟨k + 1, _, by omega, by go_num, HN.out, HP.out, (HB.out.trans (q.mono HB.out.size)).setCell (p := ⟨w.heap.size, k, none⟩) (Nat.le_refl _) _⟩
      case measure => simp [intOf]; omega
    · skip
      obtain rfl : k = n := by omega
      obtain ⟨t1, t2⟩ := HT.out L HM.out
      have T1 := Lib.hid t1; have T2 := Lib.hid t2; clear t1 t2
      go_wp2
      go_ret
      exact ⟨_, L, rfl, HO.out, T2.out, T1.out, HB.out⟩

end Go.Proofs.Ythihemfegjaenaa

end

section

namespace Go.Proofs.Ythihemfegjaenaa
open Go Ieee Go.RowKit
set_option linter.unusedVariables false

def GaveT (w : World) (b : Bool) (M : List (Option Nat)) (r : Ending) (w' : World) : Prop :=
  ∃ (a : Option Addr) (c : Nat) (y : List Nat), r = .returned (.tuple #[.slice a y.length c, .bool b]) ∧ GotList w.heap.size w w' (if b then M else []) a y

theorem gave_told {w w' : World} {N c : Nat} {a : Option Addr} {zs : List Nat} {mv : Nat → Option Nat} {b : Bool} (hb : b = true) (h1 : zs.length = N) (h2 : Is zs (toldC N mv)) (h4 : OwnV w' w.heap.size a (fvals zs)) (h : Below w.heap.size w w') : GaveT w b (toldC N mv) (.returned (.tuple #[.slice a N c, .bool true])) w' := by
  subst hb; exact ⟨a, c, zs, by rw [h1], h4, h2, h⟩
theorem gave_not {w w' : World} {b : Bool} {M : List (Option Nat)} (hb : b = false) (h : Below w.heap.size w w') : GaveT w b M (.returned (.tuple #[.slice none 0 0, .bool false])) w' := by subst hb; exact ⟨none, 0, [], rfl, GotList.none h⟩

theorem told_snoc {zs : List Nat} {k z : Nat} {mv : Nat → Option Nat} (h1 : zs.length = k) (h2 : ∀ y ∈ zs, y < 2 ^ 32) (h3 : ∀ j, j < k → canon .f32 (zs.getD j 0) = mv j) (hz : z < 2 ^ 32) (hc : canon .f32 z = mv k) : (∀ y ∈ zs ++ [z], y < 2 ^ 32) ∧ (∀ j, j < k + 1 → canon .f32 ((zs ++ [z]).getD j 0) = mv j) := by
  refine ⟨fun y hy => ?_, fun j hj => ?_⟩
  · rcases List.mem_append.1 hy with h | h
    · exact h2 y h
    · rw [List.mem_singleton.1 h]; exact hz
  · by_cases e : j < k
    · rw [List.getD_eq_getElem?_getD, List.getElem?_append_left (by omega), ← List.getD_eq_getElem?_getD]; exact h3 j e
    · obtain rfl : j = k := by omega
      rw [List.getD_eq_getElem?_getD, List.getElem?_append_right (by omega), h1, Nat.sub_self]; exact hc

theorem is_told {zs : List Nat} {N : Nat} {mv : Nat → Option Nat} (h1 : zs.length = N) (h2 : ∀ z ∈ zs, z < 2 ^ 32) (h3 : ∀ j, j < N → canon .f32 (zs.getD j 0) = mv j) (hN : N ≤ 256) : Is zs (toldC N mv) := by
  refine ⟨?_, h2, by rw [h1]; exact hN⟩
  apply List.ext_getElem
  · unfold cl toldC; rw [List.length_map, List.length_map, List.length_range, h1]
  · intro i hi hi'
    have hz : i < zs.length := by rw [cl_length] at hi; exact hi
    unfold cl toldC at *
    rw [List.getElem_map, List.getElem_map, List.getElem_range, ← getD_get hz]
    exact h3 i (by omega)

theorem outs_laterW {w wr w1 : World} {v : Value} {n : Nat} {zs : List Nat} (h : Outs w wr v n zs) (b : Below wr.heap.size wr w1) : Outs w w1 v n zs := by
  refine ⟨h.1, ⟨h.2.1.1, ?_⟩, h.2.2.trans (b.mono h.2.2.size)⟩
  rcases h.2.1.2 with h0 | ⟨g, cap, cur, hv, hg, hh, r⟩
  · exact .inl h0
  · exact .inr ⟨g, cap, cur, hv, hg, (b.block g (Array.getElem?_eq_some_iff.1 hh).1).trans hh, r⟩

theorem outs_endW {w wr : World} {v : Value} {n : Nat} {zs : List Nat} (h : Outs w wr v n zs) : ∃ a c, v = .slice a n c ∧ OwnV wr w.heap.size a (fvals zs) ∧ Below w.heap.size w wr := by
  rcases h.2.1.2 with ⟨hv, h0⟩ | ⟨g, cap, cur, hv, _⟩
  · subst hv; subst h0
    exact ⟨none, 0, rfl, OwnV.of_owned h.2.1, h.2.2⟩
  · subst hv
    exact ⟨_, cap, rfl, OwnV.of_owned h.2.1, h.2.2⟩

end Go.Proofs.Ythihemfegjaenaa

end

section

namespace Go.Proofs.Ythihemfegjaenaa
open Go Ieee Go.RowKit
set_option linter.unusedVariables false
set_option linter.unusedSimpArgs false

/-- which part of a whole some of it is -/
def partW (wi c : Int) : Option Nat := fop .quo .f32 (canon .f32 (mk c)) (canon .f32 (mk wi))

theorem implPartW (wi c : Int) (w : World) : Calls Try.prog 69 #[.int .i64 wi, .int .i64 c] w fun e w' => ∃ v, e = .returned (.float .f32 v) ∧ canon .f32 v = partW wi c ∧ v < 2 ^ 32 ∧ Below w.heap.size w w' := by
  go_enter Try.func69, Try.ntmps69
  go_wp2_with (refine wpList_arith rfl _ _ _ _ _ rfl rfl .f32 _ _ rfl rfl ?_; intro v q hc hv; have HC := Lib.hid hc; clear hc)
  go_ret
  exact ⟨v, rfl, HC.out, hv, below_drewN (Below.refl _ _) _⟩

def sineC (o : Option Nat) : Option Nat := fconv .f64 .f32 (wideS (fconv .f32 .f64 o))
def cosC (o : Option Nat) : Option Nat := fop .sub .f32 (canon .f32 1056964608) (fop .mul .f32 (canon .f32 1056964608) (sineC (fop .add .f32 (canon .f32 1048576000) o)))
def triI (n : Int) (k : Nat) : Int := mn2 ((k : Int) + 1) (n - k)
def winC (kind n : Int) (k : Nat) : Option Nat := if kind = 0 then canon .f32 1065353216 else if kind = 1 then partW (n + 1) (2 * triI n k) else cosC (partW (n + 1) ((k : Int) + 1))
def lenB (n : Int) : Bool := decide (1 ≤ n ∧ n ≤ 64)
def winB (kind n : Int) : Bool := lenB n && decide (0 ≤ kind ∧ kind ≤ 2)

theorem winC_0 (n : Int) (k : Nat) : winC 0 n k = canon .f32 1065353216 := by unfold winC; exact if_pos rfl
theorem winC_1 (n : Int) (k : Nat) : winC 1 n k = partW (n + 1) (2 * triI n k) := by unfold winC; rw [if_neg (by decide)]; exact if_pos rfl
theorem winC_2 (n : Int) (k : Nat) : winC 2 n k = cosC (partW (n + 1) ((k : Int) + 1)) := by unfold winC; rw [if_neg (by decide)]; exact if_neg (by decide)

theorem tri_in {n : Int} {k : Nat} (h : (k : Int) < n) : 1 ≤ triI n k ∧ triI n k ≤ (k : Int) + 1 := by
  unfold triI; have := mn2_le ((k : Int) + 1) (n - k); omega

theorem twice_mk : ∀ m : Nat, m < 65 → fop .mul .f32 (canon .f32 1073741824) (canon .f32 (mk (m : Int))) = canon .f32 (mk (2 * (m : Int))) := by decide +kernel

@[go_sem] theorem run_min_int2 {P : Program} (w : World) (ts : Array TypeId) (t : TypeId) (k k1 : IntKind) (a b : Int) : (Builtin.min_ ts t #[.int k a, .int k1 b]).run P w = .ok (.int k (mn2 a b)) w := by
  have e : mn2 a b = (if b < a then b else a) := by unfold mn2; repeat' split
                                                    all_goals omega
  simp [Builtin.min_, Builtin.min2, e]

theorem implLength (n : Int) (w : World) : Calls Try.prog 90 #[.int .i64 n] w fun e w' => e = .returned (.bool (lenB n)) ∧ w = w' := by
  unfold lenB
  by_cases h1 : 1 ≤ n
  · skip
    have d1 : decide (1 ≤ n) = true := decide_eq_true h1
    rw [show decide (1 ≤ n ∧ n ≤ 64) = decide (n ≤ 64) by rw [decide_eq_decide]; omega]
    go_enter Try.func90, Try.ntmps90
    go_wp2
    go_ret
    exact ⟨rfl, rfl⟩
  · skip
    have d1 : decide (1 ≤ n) = false := decide_eq_false h1
    rw [show decide (1 ≤ n ∧ n ≤ 64) = false by rw [decide_eq_false]; omega]
    go_enter Try.func90, Try.ntmps90
    go_wp2
    go_ret
    exact ⟨rfl, rfl⟩

theorem specLength (n : Int) (w : World) : Calls Try.prog 87 #[.int .i64 n] w fun e w' => e = .returned (.bool (lenB n)) ∧ w = w' := by
  go_enter Try.func87, Try.ntmps87
  go_wp2_with fail
  refine (l00In_any _ _ _ _).mono ?_
  rintro e w9 ⟨rfl, rfl⟩
  go_wp2
  go_ret
  exact ⟨by unfold lenB; rw [Bool.decide_and]; rfl, rfl⟩

set_option maxHeartbeats 2000000 in
set_option maxRecDepth 100000 in
theorem implWin1 (k : Int) (w : World) : Calls Try.prog 92 #[.int .i64 k] w fun e w' => ∃ v, e = .returned (.float .f32 v) ∧ canon .f32 v = canon .f32 1065353216 ∧ v < 2 ^ 32 ∧ Below w.heap.size w w' := by
  go_enter Try.func92, Try.ntmps92
  go_wp2
  go_ret
  exact ⟨_, rfl, rfl, by decide, Below.refl _ _⟩

set_option maxHeartbeats 2000000 in
set_option maxRecDepth 100000 in
theorem implWin2 (g k : Nat) (n : Int) (w : World) (G : Blk w g #[.int .i64 n] 2) (h : (k : Int) < n) (h64 : n ≤ 64) : Calls Try.prog 93 #[.int .i64 k, .pointer (some ⟨g, 0, none⟩)] w fun e w' => ∃ v, e = .returned (.float .f32 v) ∧ canon .f32 v = partW (n + 1) (2 * triI n k) ∧ v < 2 ^ 32 ∧ Below w.heap.size w w' := by
  have ht := tri_in h
  have h0 : (0 : Int) ≤ (k : Int) := Int.natCast_nonneg k
  by_cases hc : n - (k : Int) < (k : Int) + 1
  · skip
    have HP := Lib.hid (implPartW (n + 1) (2 * triI n k))
    have HT : Hid (triI n k = n - (k : Int)) := Lib.hid (by unfold triI mn2; split <;> omega)
    rw [HT.out] at ht HP ⊢
    obtain ⟨Gc, Gf⟩ := G.open
    go_enter Try.func93, Try.ntmps93
    go_wp2_with fail
    refine (HP.out _).mono ?_
    rintro e w' ⟨v, rfl, hc2, hv, b⟩
    have HC := Lib.hid hc2; clear hc2
    go_wp2
    go_ret
    exact ⟨_, rfl, HC.out, hv, b⟩
  · skip
    have HP := Lib.hid (implPartW (n + 1) (2 * triI n k))
    have HT : Hid (triI n k = (k : Int) + 1) := Lib.hid (by unfold triI mn2; split <;> omega)
    rw [HT.out] at ht HP ⊢
    obtain ⟨Gc, Gf⟩ := G.open
    go_enter Try.func93, Try.ntmps93
    go_wp2_with fail
    refine (HP.out _).mono ?_
    rintro e w' ⟨v, rfl, hc2, hv, b⟩
    have HC := Lib.hid hc2; clear hc2
    go_wp2
    go_ret
    exact ⟨_, rfl, HC.out, hv, b⟩

set_option maxRecDepth 100000 in
theorem implCosW (z : Nat) (hz : z < 2 ^ 32) (w : World) : Calls Try.prog 95 #[.float .f32 z] w fun e w' => ∃ v, e = .returned (.float .f32 v) ∧ canon .f32 v = cosC (canon .f32 z) ∧ v < 2 ^ 32 ∧ Below w.heap.size w w' := by
  have tok1 : True := trivial; have tok2 : True := trivial; have HB : Hid (Below w.heap.size w w) := Lib.hid (Below.refl _ _)
  go_enter Try.func95, Try.ntmps95
  go_wp2_with (first | (have _t := tok1; refine wpList_arith rfl _ _ _ _ _ rfl rfl .f32 _ _ rfl rfl ?_; intro z1 nn1 hc hb_1; have H_1 := Lib.hid hc; clear hc _t tok1; replace hb_1 : z1 < 2 ^ 32 := hb_1; have q_ : Below w.heap.size w (w.drewN nn1) := below_drewN (Below.refl _ _) _; replace HB := Lib.hid (HB.out.trans (q_.mono HB.out.size)); clear q_; generalize w.drewN nn1 = v1 at *) | (go_at_call 127; refine (implSine z1 _ hb_1).mono ?_; rintro e v2 ⟨zs, ms, rfl, hw, hs, hb_s⟩; have H_s := Lib.hid hs; clear hs; have q_ : Below v1.heap.size v1 v2 := (by rw [hw]; exact below_drewN (Below.refl _ _) _); replace HB := Lib.hid (HB.out.trans (q_.mono HB.out.size)); clear hw q_) | (go_at_call 71; refine (mulN _ _ _).mono ?_; rintro e v3 ⟨zm, mm, rfl, hw, hm, hb_m⟩; have H_m := Lib.hid hm; clear hm; have q_ : Below v2.heap.size v2 v3 := (by rw [hw]; exact below_drewN (Below.refl _ _) _); replace HB := Lib.hid (HB.out.trans (q_.mono HB.out.size)); clear hw q_) | (have _t := tok2; refine wpList_arith rfl _ _ _ _ _ rfl rfl .f32 _ _ rfl rfl ?_; intro z2 nn2 hc hb_2; have H_2 := Lib.hid hc; clear hc _t tok2; replace hb_2 : z2 < 2 ^ 32 := hb_2; have q_ : Below v3.heap.size v3 (v3.drewN nn2) := below_drewN (Below.refl _ _) _; replace HB := Lib.hid (HB.out.trans (q_.mono HB.out.size)); clear q_; generalize v3.drewN nn2 = v4 at *))
  go_ret
  exact ⟨z2, rfl, by rw [H_2.out, H_m.out, H_s.out]; unfold sineN cosC sineC; rw [H_1.out], hb_2, HB.out⟩

set_option maxHeartbeats 2000000 in
set_option maxRecDepth 100000 in
theorem implWin3 (g k : Nat) (n : Int) (w : World) (G : Blk w g #[.int .i64 n] 2) (h : (k : Int) < n) (h64 : n ≤ 64) : Calls Try.prog 94 #[.int .i64 k, .pointer (some ⟨g, 0, none⟩)] w fun e w' => ∃ v, e = .returned (.float .f32 v) ∧ canon .f32 v = cosC (partW (n + 1) ((k : Int) + 1)) ∧ v < 2 ^ 32 ∧ Below w.heap.size w w' := by
  have h0 : (0 : Int) ≤ (k : Int) := Int.natCast_nonneg k
  obtain ⟨Gc, Gf⟩ := G.open
  go_enter Try.func94, Try.ntmps94
  go_wp2_with fail
  refine (implPartW _ _ _).mono ?_
  rintro e w1 ⟨v, rfl, hc, hv, b⟩
  have HC := Lib.hid hc; clear hc
  go_wp2_with fail
  refine (implCosW v hv _).mono ?_
  rintro e w2 ⟨v2, rfl, hc, hv2, b2⟩
  have HC2 := Lib.hid hc; clear hc
  go_wp2
  go_ret
  exact ⟨_, rfl, by rw [HC2.out, HC.out], hv2, b.trans (b2.mono b.size)⟩

end Go.Proofs.Ythihemfegjaenaa

end
