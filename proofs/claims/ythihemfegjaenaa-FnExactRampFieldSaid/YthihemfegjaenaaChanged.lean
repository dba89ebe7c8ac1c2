/- A list in which the numbers of some cells are made anew: the program's loop, for any test and any change. Conditions: none beyond those of each theorem. -/
import Derived.Test.YthihemfegjaenaaCallV
import Derived.Test.YthihemfegjaenaaChg
import Derived.Test.YthihemfegjaenaaBu7
import Derived.Test.YthihemfegjaenaaBu5
namespace Go.Proofs.Ythihemfegjaenaa
open Go Ieee Go.RowKit
set_option linter.unusedVariables false

set_option maxHeartbeats 8000000 in
set_option maxRecDepth 100000 in
theorem implChanged (wd hi : Int) (wb : Bool) (ba oa ca n : Nat) (xs : List Nat) (fm fc : FuncId) (r1 k1 r2 k2 : Array Value) (p : Nat → Bool) (G : Nat → Option Nat) (w : World) (ha : RowV w (some ⟨ba, oa, none⟩) (fvals xs)) (qa : ∀ z ∈ xs, z < 2 ^ 32) (hx : xs.length = n) (s1 : 3 ≤ wd) (s2 : wd ≤ 16) (n0 : 0 < n) (n256 : n ≤ 256) (gM : IsGo fm) (gC : IsGo fc)
    (hM : ∀ i : Nat, i < n → ∀ w', Below w.heap.size w w' → Calls Try.prog fm (r1 ++ #[.agg #[.int .i64 ((i : Int) % wd), .int .i64 ((i : Int) / wd)]] ++ k1) w' fun e w'' => e = .returned (.bool (p i)) ∧ Below w'.heap.size w' w'')
    (hC : ∀ i : Nat, i < n → p i = true → ∀ w', Below w.heap.size w w' → Calls Try.prog fc (r2 ++ #[.agg #[.int .i64 ((i : Int) % wd), .int .i64 ((i : Int) / wd)], .float .f32 (xs.getD i 0)] ++ k2) w' fun e w'' => ∃ v, e = .returned (.float .f32 v) ∧ canon .f32 v = G i ∧ v < 2 ^ 32 ∧ Below w'.heap.size w' w'') :
    Calls Try.prog 73 #[.agg #[.int .i64 wd, .int .i64 hi, .bool wb], .slice (some ⟨ba, oa, none⟩) n ca, .func (.func fm) r1 k1, .func (.func fc) r2 k2] w fun e w' => ∃ g c L, e = .returned (.slice (some ⟨g, 0, none⟩) n c) ∧ OwnV w' w.heap.size (some ⟨g, 0, none⟩) (fvals L) ∧ L.length = n ∧ Is L (chgC p G xs) ∧ Below w.heap.size w w' := by
  have HT : Hid (∀ L, ChgTo p G xs n L → Is L (chgC p G xs)) := Lib.hid (fun L h => h.all (by omega) (by omega))
  have HST := Lib.hid (ChgTo.start (p := p) (G := G) qa)
  have HX := Lib.hid hx; have HM := Lib.hid hM; have HC := Lib.hid hC; clear hM hC
  have CL : ∀ u, RowV u (some ⟨ba, oa, none⟩) (fvals xs) → Calls Try.prog 72 #[.slice (some ⟨ba, oa, none⟩) n ca] u fun e w' => ∃ g c', e = .returned (.slice (some ⟨g, 0, none⟩) n c') ∧ OwnV w' u.heap.size (some ⟨g, 0, none⟩) (fvals xs) ∧ Below u.heap.size u w' := fun u h => by
    have := implClone ba oa ca xs u h (by omega) (by omega)
    rw [hx] at this; exact this
  have HCL := Lib.hid CL; clear CL hx
  have X := Blk.new w #[.int .i64 wd, .int .i64 hi, .bool wb] 78
  have HB : Hid (Below w.heap.size w (w.alloc (.cells #[.int .i64 wd, .int .i64 hi, .bool wb] 78))) := Lib.hid ((Below.refl w.heap.size w).alloc (by simp <;> omega) _)
  go_enter Try.func73, Try.ntmps73
  go_wp2_with fail
  generalize (w.alloc (.cells #[.int .i64 wd, .int .i64 hi, .bool wb] 78)) = u1 at *
  refine (HCL.out _ (ha.later HB.out)).mono ?_
  have zB := HB.out.size; have zX := X.lt
  rintro r u2 ⟨g, c9, rfl, ho, q⟩
  have glo : u1.heap.size ≤ g := ho.bound g rfl
  replace X := X.later q; replace HB := Lib.hid (HB.out.trans (q.mono HB.out.size)); clear q
  have HO := Lib.hid (ho.lower zB); clear ho
  have glt := (HO.out.span _ rfl).2; dsimp only at glt
  go_wp2
  go_loopw [17] (fun iv wr => ∃ (k : Nat) (L : List Nat), k ≤ n ∧ iv = .int .i64 k ∧ ChgTo p G xs k L ∧ OwnV wr w.heap.size (some ⟨g, 0, none⟩) (fvals L) ∧ Blk wr w.heap.size #[.int .i64 wd, .int .i64 hi, .bool wb] 78 ∧ Below w.heap.size w wr) (fun iv _ => n - (intOf iv).toNat)
  case atStart => exact ⟨0, xs, Nat.zero_le _, rfl, HST.out, HO.out, X, HB.out⟩
  case round =>
    obtain ⟨k, L, hk, rfl, hM, hown, X, hb⟩ := hrel
    replace HO := Lib.hid hown; replace HB := Lib.hid hb; have HM2 := Lib.hid hM; clear hown hb hM HST
    by_cases hlt : k < n
    · skip
      have kx : k < xs.length := by rw [HX.out]; exact hlt
      have kL : k < L.length := by rw [HM2.out.len]; exact kx
      obtain ⟨b, off, e9, hc⟩ := ha.later HB.out k _ (fvals_get kx)
      cases e9
      have hki : (k : Int) < (n : Int) := by omega
      have HG := Lib.hid (getD_get kx)
      have HCK : Hid (p k = true → _) := Lib.hid (HC.out k hlt)
      rw [HG.out] at HCK
      have HYES : Hid (p k = true → ∀ v, v < 2 ^ 32 → canon .f32 v = G k → ChgTo p G xs (k + 1) (L.set k v)) := Lib.hid (fun hp v hv hc => HM2.out.yes kx hp hv hc)
      have HNO : Hid (p k = false → ChgTo p G xs (k + 1) L) := Lib.hid (fun hp => HM2.out.no hp)
      generalize xs[k] = x at *
      obtain ⟨Xc, Xf⟩ := X.open
      go_wp2_with fail
      refine (implCellAt _ _ _ _ _ s1 s2 (by omega) (by omega)).mono ?_
      rintro e v2 ⟨rfl, q⟩
      clear Xc Xf hc
      replace X := X.later q; replace HO := Lib.hid (HO.out.later q); replace HB := Lib.hid (HB.out.trans (q.mono HB.out.size)); clear q
      have C := Blk.new v2 #[.int .i64 ((k : Int) % wd), .int .i64 ((k : Int) / wd)] 81
      have q := below_new v2 (.cells #[.int .i64 ((k : Int) % wd), .int .i64 ((k : Int) / wd)] 81)
      replace X := X.later q; replace HO := Lib.hid (HO.out.later q); replace HB := Lib.hid (HB.out.trans (q.mono HB.out.size)); clear q
      go_upto_region 6 with (fail)
      obtain ⟨gc, hgc⟩ : ∃ gc, gc = v2.heap.size := ⟨_, rfl⟩
      rw [← hgc] at C
      (try simp only [← hgc])
      generalize v2.alloc (.cells #[.int .i64 ((k : Int) % wd), .int .i64 ((k : Int) / wd)] 81) = v3 at *
      clear hgc
      obtain ⟨Cc, Cf⟩ := C.open
      rcases hf : p k with _ | _
      · skip
        have H_f := Lib.hid hf
        have HN := Lib.hid (HNO.out hf); clear hf
        go_wp2_with (refine wpList_callV fm r1 k1 rfl gM [.agg #[.int .i64 ((k : Int) % wd), .int .i64 ((k : Int) / wd)]] rfl _ (HM.out k hlt _ HB.out) ?_; rintro e v4 ⟨rfl, q⟩; refine ⟨_, rfl, ?_⟩; rw [H_f.out])
        go_roundw
        case rel => exact ⟨k + 1, L, by omega, by go_num, HN.out, HO.out.later q, X.later q, HB.out.trans (q.mono HB.out.size)⟩
        case measure => simp [intOf]; omega
      · skip
        have H_f := Lib.hid hf
        have HN := Lib.hid (HYES.out hf); clear hf
        go_upto_region 7 with (refine wpList_callV fm r1 k1 rfl gM [.agg #[.int .i64 ((k : Int) % wd), .int .i64 ((k : Int) / wd)]] rfl _ (HM.out k hlt _ HB.out) ?_; rintro e v4 ⟨rfl, q⟩; refine ⟨_, rfl, ?_⟩; rw [H_f.out])
        clear Cc Cf
        replace X := X.later q; replace C := C.later q; replace HO := Lib.hid (HO.out.later q); replace HB := Lib.hid (HB.out.trans (q.mono HB.out.size)); clear q
        obtain ⟨Cc, Cf⟩ := C.open
        go_wp2_with (refine wpList_callV fc r2 k2 rfl gC [.agg #[.int .i64 ((k : Int) % wd), .int .i64 ((k : Int) / wd)], .float .f32 x] rfl _ (HCK.out H_f.out _ HB.out) ?_; rintro e v5 ⟨z, rfl, hz, hzl, q⟩; refine ⟨_, rfl, ?_⟩; have HN2 := Lib.hid (HN.out z hzl hz); replace HO := Lib.hid (HO.out.later q); obtain ⟨cs, tt, _, hblk, hvv⟩ := own_some HO.out; obtain ⟨gcc, gcf⟩ := hblk.open; have f0 : v5.cell? ⟨g, k, none⟩ = some _ := (gcc _).trans (hvv k _ (fvals_get kL)); have GF := gcf k; clear gcc gcf hvv hblk hz)
        have hp := own_put HO.out k (.float .f32 z) (by rw [fvals_length]; exact kL)
        rw [fvals_set] at hp
        have HP := Lib.hid hp; clear hp
        go_roundw
        case rel => exact ⟨k + 1, _, by omega, by go_num, HN2.out, HP.out, (X.later q).setOther (by dsimp only; omega) _, (HB.out.trans (q.mono HB.out.size)).setCell (p := ⟨g, k, none⟩) (by dsimp only; omega) _⟩
        case measure => simp [intOf]; omega
    · skip
      obtain rfl : k = n := by omega
      go_wp2
      go_ret
      exact ⟨g, c9, L, rfl, HO.out, by rw [HM2.out.len, HX.out], HT.out L HM2.out, HB.out⟩

end Go.Proofs.Ythihemfegjaenaa
