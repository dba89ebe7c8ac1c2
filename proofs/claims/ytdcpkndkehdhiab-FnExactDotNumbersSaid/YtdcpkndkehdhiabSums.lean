/- Sums and products of lists of floats, the program's and the model's. Conditions: none beyond those of each theorem. -/
import Derived.Test.YtdcpkndkehdhiabEqs
namespace Go.Proofs.Ytdcpkndkehdhiab
open Go Ieee Go.RowKit

/-- a float comes back, known up to a NaN's bits, and nothing but draws was done -/
def FRet (w : World) (f : Nat → Value) (S : Option Nat) (e : Ending) (w' : World) : Prop := ∃ r n, e = .returned (f r) ∧ w' = w.drewN n ∧ canon .f32 r = S ∧ r < 2 ^ 32

def fsum (xs : List Nat) : Option Nat := xs.foldl (fun s x => fop .add .f32 s (canon .f32 x)) (some 0)

def few (n : Nat) : Bool := decide (n ≤ 256)
def fsumAll (xs : List Nat) : Option Nat := if xs.length ≤ 256 then fsum xs else some 0
theorem few_yes {n : Nat} (h : n ≤ 256) : few n = true := decide_eq_true h
theorem few_no {n : Nat} (h : ¬ n ≤ 256) : few n = false := decide_eq_false h

theorem fsum_take {xs : List Nat} {k : Nat} (h : k < xs.length) : fsum (xs.take (k + 1)) = fop .add .f32 (fsum (xs.take k)) (canon .f32 xs[k]) := by
  unfold fsum; rw [List.take_succ_eq_append_getElem h, List.foldl_append]; rfl

set_option maxHeartbeats 1000000 in
theorem specSum (a : Option Addr) (ca : Nat) (xs : List Nat) (w : World) (ha : RowV w a (fvals xs)) (hn : xs.length ≤ maxLen) :
    Calls Try.prog 25 #[.slice a xs.length ca] w (FRet w (fun r => .float .f32 r) (fsum xs)) := by
  unfold maxLen at hn
  generalize hlen : xs.length = n at hn ⊢
  have HL := Lib.hid hlen
  clear hlen
  go_enter Try.func25, Try.ntmps25
  go_wp2
  go_loopw [3, 4] (fun s i wr => ∃ k r : Nat, k ≤ n ∧ i = .int .i64 k ∧ s = .float .f32 r ∧ canon .f32 r = fsum (xs.take k) ∧ r < 2 ^ 32 ∧ ∃ m, wr = w.drewN m) (fun _ i _ => n - (intOf i).toNat)
  case atStart => exact ⟨0, 0, Nat.zero_le _, rfl, rfl, rfl, by decide, 0, rfl⟩
  case round =>
    obtain ⟨k, r, hk, rfl, rfl, hr, hrl, m, rfl⟩ := hrel
    have HR := Lib.hid hr
    clear hr
    by_cases hlt : k < n
    · have k1 : k < xs.length := by rw [HL.out]; exact hlt
      obtain ⟨ba, oa, rfl, c1⟩ := ha k _ (fvals_get k1)
      have hs := fsum_take k1
      rw [← HR.out] at hs
      have HS := Lib.hid hs
      clear hs
      generalize xs[k] = x at *
      go_wp2_with (refine wpList_arith rfl _ _ _ _ _ rfl rfl .f32 _ _ rfl rfl ?_; intro v q hc hv; replace hv : v < 2 ^ 32 := hv; have HC := Lib.hid hc; clear hc)
      go_roundw
      case rel => exact ⟨k + 1, v, by omega, by go_num, rfl, HC.out.trans HS.out.symm, hv, _, rfl⟩
      case measure => simp [intOf]; omega
    · obtain rfl : k = n := by omega
      go_wp2
      go_ret
      refine ⟨_, _, rfl, rfl, ?_, hrl⟩
      rw [HR.out, List.take_of_length_le (by rw [HL.out]; exact Nat.le_refl _)]

set_option maxHeartbeats 1000000 in
theorem implSum (a : Option Addr) (ca : Nat) (xs : List Nat) (w : World) (ha : RowV w a (fvals xs)) (hn : xs.length ≤ maxLen) :
    Calls Try.prog 26 #[.slice a xs.length ca] w (FRet w (fun r => .tuple #[.float .f32 r, .bool (few xs.length)]) (fsumAll xs)) := by
  unfold maxLen at hn
  generalize hlen : xs.length = n at hn ⊢
  have HL := Lib.hid hlen
  clear hlen
  by_cases hbig : (256 : Int) < n
  · go_enter Try.func26, Try.ntmps26
    go_wp2
    go_ret2
    exact ⟨0, 0, by rw [few_no (by omega)]; rfl, rfl, by unfold fsumAll; rw [if_neg (by rw [HL.out]; omega)]; rfl, by decide⟩
  · have hsm : n ≤ 256 := by omega
    have HB := Lib.hid hsm
    go_enter Try.func26, Try.ntmps26
    go_wp2
    go_loopw [4, 6, 13] (fun s _ i wr => ∃ k r : Nat, k ≤ n ∧ i = .int .i64 k ∧ s = .float .f32 r ∧ canon .f32 r = fsum (xs.take k) ∧ r < 2 ^ 32 ∧ ∃ m, wr = w.drewN m) (fun _ _ i _ => n - (intOf i).toNat)
    case atStart => exact ⟨0, 0, Nat.zero_le _, rfl, rfl, rfl, by decide, 0, rfl⟩
    case round =>
      obtain ⟨k, r, hk, rfl, rfl, hr, hrl, m, rfl⟩ := hrel
      have HR := Lib.hid hr
      clear hr
      by_cases hlt : k < n
      · have k1 : k < xs.length := by rw [HL.out]; exact hlt
        obtain ⟨ba, oa, rfl, c1⟩ := ha k _ (fvals_get k1)
        have hs := fsum_take k1
        rw [← HR.out] at hs
        have HS := Lib.hid hs
        clear hs
        generalize xs[k] = x at *
        go_wp2_with (refine wpList_arith rfl _ _ _ _ _ rfl rfl .f32 _ _ rfl rfl ?_; intro v q hc hv; replace hv : v < 2 ^ 32 := hv; have HC := Lib.hid hc; clear hc)
        go_roundw
        case rel => exact ⟨k + 1, v, by omega, by go_num, rfl, HC.out.trans HS.out.symm, hv, _, rfl⟩
        case measure => simp [intOf]; omega
      · obtain rfl : k = n := by omega
        go_wp2
        go_ret2
        refine ⟨r, _, by rw [few_yes HB.out]; rfl, rfl, ?_, hrl⟩
        unfold fsumAll
        rw [if_pos (by rw [HL.out]; exact HB.out), HR.out, List.take_of_length_le (by rw [HL.out]; exact Nat.le_refl _)]

theorem specFew (a : Option Addr) (ca n : Nat) (w : World) (hn : n ≤ maxLen) : Calls Try.prog 24 #[.slice a n ca] w fun e w' => e = .returned (.bool (few n)) ∧ w = w' := by
  unfold maxLen at hn
  have hd : decide ((n : Int) ≤ 256) = few n := by unfold few; rw [decide_eq_decide]; omega
  go_enter Try.func24, Try.ntmps24
  go_wp2
  go_ret
  exact ⟨by rw [← hd]; rfl, rfl⟩

theorem specSumNumbers (a : Option Addr) (ca : Nat) (xs : List Nat) (w : World) (ha : RowV w a (fvals xs)) (hn : xs.length ≤ maxLen) :
    Calls Try.prog 6 #[.slice a xs.length ca] w (FRet w (fun r => .tuple #[.float .f32 r, .bool (few xs.length)]) (fsumAll xs)) := by
  by_cases hsm : xs.length ≤ 256
  · have hd := few_yes hsm
    have hr : fsumAll xs = fsum xs := if_pos hsm
    rw [hd, hr]
    clear hr hsm
    go_enter Try.func6, Try.ntmps6
    go_wp2_with (first | (go_at_call 24; refine (specFew _ _ _ _ hn).mono ?_; rintro e w' ⟨rfl, rfl⟩) | (go_at_call 25; refine (specSum _ _ _ _ ha hn).mono ?_; rintro e w' ⟨r, n, rfl, rfl, hr, hrl⟩; have HR := Lib.hid hr; clear hr))
    go_ret2
    exact ⟨r, _, rfl, rfl, HR.out, hrl⟩
  · have hd := few_no hsm
    have hr : fsumAll xs = some 0 := if_neg hsm
    rw [hd, hr]
    clear hr hsm
    go_enter Try.func6, Try.ntmps6
    go_wp2_with (first | (go_at_call 24; refine (specFew _ _ _ _ hn).mono ?_; rintro e w' ⟨rfl, rfl⟩))
    go_ret2
    exact ⟨0, 0, rfl, rfl, rfl, by decide⟩

theorem implSumNumbers (a : Option Addr) (ca : Nat) (xs : List Nat) (w : World) (ha : RowV w a (fvals xs)) (hn : xs.length ≤ maxLen) :
    Calls Try.prog 8 #[.slice a xs.length ca] w (FRet w (fun r => .tuple #[.float .f32 r, .bool (few xs.length)]) (fsumAll xs)) := by
  go_enter Try.func8, Try.ntmps8
  go_wp2_with ((go_at_call 26; refine (implSum _ _ _ _ ha hn).mono ?_; rintro e w' ⟨r, n, rfl, rfl, hr, hrl⟩; have HR := Lib.hid hr; clear hr))
  go_ret2
  exact ⟨r, _, rfl, rfl, HR.out, hrl⟩

/-- a slice of floats that came in -/
theorem open_rowF {H : Type} {enc : TypeId × Value → H} {W : World} {base : Nat} {spare : Nat → Bool} {held : Bool} {t e : TypeId} {a : Option Addr} {len cap : Nat} {d : DataW H} {ps : List MemPlace} (ht : Try.prog.underlying t = some (.slice e)) (he : Try.prog.underlying e = some (.float .f32)) (hc : Try.prog.cellsOf e = 1)
    (h : DataW.Trod enc Try.prog W base spare held t (.slice a len cap) d ps) : ∃ xs : List Nat, len = xs.length ∧ RowV W a (fvals xs) ∧ (∀ x ∈ xs, x < 2 ^ 32) ∧ len ≤ maxLen := by
  obtain ⟨fuel, hf⟩ := h
  rcases Deep.open_slice1 ht hc hf with ⟨hcs, _⟩ | ⟨x, l, c, m, n, V, D, Pl, hcs, _, hl, hm, hmm, _, hx⟩
  · simp [Value.cells] at hcs
    obtain ⟨rfl, rfl, rfl⟩ := hcs
    exact ⟨[], rfl, (fun i u hu => by simp [fvals] at hu), (fun x hx => by cases hx), (by unfold maxLen; omega)⟩
  · simp [Value.cells] at hcs
    obtain ⟨rfl, rfl, rfl⟩ := hcs
    have hlm : len ≤ m := by rw [hmm]; split <;> omega
    have each : ∀ i, i < len → ∃ b, V i = .float .f32 b ∧ b < 2 ^ 32 := fun i hi => by
      have := (hx i (by omega)).2
      cases n with
      | zero => simp [DataW.trod] at this
      | succ n =>
        simp only [DataW.trod, he] at this
        cases hv : V i with
        | float k b =>
          rw [hv] at this
          by_cases hk : k = .f32
          · subst hk
            by_cases hw : (Lit.float .f32 b).wf = true
            · exact ⟨b, rfl, wf_lt hw⟩
            · simp [hw] at this
          · cases k <;> simp_all
        | _ => rw [hv] at this; simp at this
    obtain ⟨f, hf'⟩ := Deep.choose_lt each
    refine ⟨(List.range len).map f, (by simp), ?_, ?_, (by omega)⟩
    · intro i u hu
      have hi : i < len := by
        have := (List.getElem?_eq_some_iff.1 hu).1
        simpa [fvals] using this
      have hu' : u = .float .f32 (f i) := by
        simp [fvals, hi] at hu
        exact hu.symm
      have hc' := (hx i (by omega)).1
      rw [(hf' i hi).1] at hc'
      obtain ⟨b, off, spot⟩ := x
      have hs : spot = none := by simpa [Addr.add] using World.cell?_spot (hx 0 (by omega)).1
      subst hs
      refine ⟨b, off, rfl, ?_⟩
      rw [hu', ← hc']
      by_cases h0 : i = 0
      · subst h0; rfl
      · simp [Addr.add, h0]
    · intro y hy
      obtain ⟨i, hi, rfl⟩ := List.mem_map.1 hy
      exact (hf' i (List.mem_range.1 hi)).2
end Go.Proofs.Ytdcpkndkehdhiab
