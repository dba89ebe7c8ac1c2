/- The rows that a strip needs: the model's list. Conditions: none beyond those of each theorem. -/
import Derived.Test.YtedfbaeajofmnaaHalo
namespace Go.Proofs.Ytedfbaeajofmnaa
open Go Ieee Go.RowKit
set_option linter.unusedVariables false
set_option linter.unusedSimpArgs false

/-- the first numbers of a list, and whether the new one has its place among them -/
def putS (zs : List Int) (n : Int) : Nat → List Int × Bool
  | 0 => ([], false)
  | k + 1 => if (putS zs n k).2 then ((putS zs n k).1 ++ [zs.getD k 0], true) else if zs.getD k 0 < n then ((putS zs n k).1 ++ [zs.getD k 0], false) else if zs.getD k 0 = n then ((putS zs n k).1 ++ [zs.getD k 0], true) else ((putS zs n k).1 ++ [n] ++ [zs.getD k 0], true)
def putL (zs : List Int) (n : Int) : List Int := if (putS zs n zs.length).2 then (putS zs n zs.length).1 else (putS zs n zs.length).1 ++ [n]
theorem putS_len (zs : List Int) (n : Int) : ∀ k, (putS zs n k).1.length ≤ 2 * k
  | 0 => Nat.le_refl _
  | k + 1 => by
    have := putS_len zs n k
    unfold putS
    (repeat' split) <;> simp <;> omega
theorem getD_getI {xs : List Int} {i : Nat} (h : i < xs.length) : xs.getD i 0 = xs[i] := by simp [h]

set_option maxHeartbeats 8000000 in
set_option maxRecDepth 100000 in
theorem specPut (a : Option Addr) (ca : Nat) (zs : List Int) (n : Int) (w : World) (ha : RowV w a (ivals zs)) (hl : zs.length ≤ 100) :
    Calls Try.prog 112 #[.slice a zs.length ca, .int .i64 n] w fun e w' => ∃ a' c, e = .returned (.slice a' (putL zs n).length c) ∧ OwnV w' w.heap.size a' (ivals (putL zs n)) ∧ Below w.heap.size w w' := by
  obtain ⟨ti, hi0, hz0, hz1, hz2⟩ := info_parts Try.infoI64
  have HI := Lib.hid hi0; have HZ0 := Lib.hid hz0; have HZ1 := Lib.hid hz1; have HZ2 := Lib.hid hz2; clear hi0 hz0 hz1 hz2
  have HLT : Hid ((putS zs n zs.length).2 = true → putL zs n = (putS zs n zs.length).1) := Lib.hid (fun h => by unfold putL; rw [if_pos h])
  have HLF : Hid ((putS zs n zs.length).2 = false → putL zs n = (putS zs n zs.length).1 ++ [n]) := Lib.hid (fun h => by unfold putL; rw [if_neg (by rw [h]; simp)])
  have HSL := Lib.hid (putS_len zs n)
  have HPS : Hid (∀ k, putS zs n (k + 1) = if (putS zs n k).2 then ((putS zs n k).1 ++ [zs.getD k 0], true) else if zs.getD k 0 < n then ((putS zs n k).1 ++ [zs.getD k 0], false) else if zs.getD k 0 = n then ((putS zs n k).1 ++ [zs.getD k 0], true) else ((putS zs n k).1 ++ [n] ++ [zs.getD k 0], true)) := Lib.hid (fun k => rfl)
  have HP0 : Hid (putS zs n 0 = ([], false)) := Lib.hid rfl
  generalize putL zs n = LL at *
  generalize hps : putS zs n = ps at *; clear hps
  go_enter Try.func112, Try.ntmps112
  go_wp2
  go_loopw [5, 6, 7] (fun q d iv wr => ∃ k : Nat, k ≤ zs.length ∧ iv = .int .i64 k ∧ d = .bool (ps k).2 ∧ OutsI w wr q (ps k).1) (fun _ _ iv _ => zs.length - (intOf iv).toNat)
  case atStart => exact ⟨0, Nat.zero_le _, rfl, by rw [HP0.out], by rw [HP0.out]; exact outsI_start (Below.refl _ _)⟩
  case round =>
    obtain ⟨k, hk, rfl, rfl, O⟩ := hrel
    have hzl := HSL.out k
    have HO := Lib.hid O; clear O
    have HB : Hid (Below w.heap.size w wr) := Lib.hid HO.out.2
    by_cases hlt : k < zs.length
    · skip
      have hki : (k : Int) < (zs.length : Int) := by omega
      obtain ⟨bb, ob, hac, f0⟩ := (ha.later HB.out) k _ (ivals_get hlt)
      have f0w := ha
      subst hac
      have hgd : zs.getD k 0 = zs[k] := getD_getI hlt
      have HPN := HPS.out k; rw [hgd] at HPN; replace HPN := Lib.hid HPN
      generalize hz : zs[k] = z at *; clear hgd
      rcases hd : (ps k).2 with _ | _
      · skip
        by_cases h1 : z < n
        · skip
          have HN1 : Hid (ps (k + 1) = ((ps k).1 ++ [z], false)) := Lib.hid (by rw [HPN.out, if_neg (by rw [hd]; simp), if_pos h1])
          clear hd
          have h3 : ¬ n ≤ z := by omega
          generalize hpk : (ps k).1 = zk at *; clear hpk
          go_wp2_with (at_builtin; refine wpList_append_own _ rfl _ _ 52 rfl w.heap.size 2 ti (.int .i64 0) 1 8 Try.underlying52 HI.out HZ0.out HZ1.out HZ2.out rfl (by decide) _ _ _ rfl (HO.out.1.alloc _) ⟨wr.heap.size, 0, none⟩ 1 1 [.int .i64 (z)] rfl rfl (oneI_news _ _) (oneI_cells _) (by unfold maxLen; omega) (by omega) (by have := HO.out.2.size; simp; omega) ?_; intro v' w9 hown' hgrow _)
          have H3 := Lib.hid (outsI_next (z := z) HO.out hown' hgrow)
          go_roundw
          case rel => exact ⟨k + 1, by omega, by go_num, by rw [HN1.out], by rw [HN1.out]; exact H3.out⟩
          case measure => simp [intOf]; omega
        · skip
          by_cases h2 : z = n
          · skip
            have HN1 : Hid (ps (k + 1) = ((ps k).1 ++ [z], true)) := Lib.hid (by rw [HPN.out, if_neg (by rw [hd]; simp), if_neg h1, if_pos h2])
            clear hd
            have h3 : n ≤ z := by omega
            have h4 : ¬ n < z := by omega
            clear h2
            generalize hpk : (ps k).1 = zk at *; clear hpk
            go_wp2_with (at_builtin; refine wpList_append_own _ rfl _ _ 52 rfl w.heap.size 2 ti (.int .i64 0) 1 8 Try.underlying52 HI.out HZ0.out HZ1.out HZ2.out rfl (by decide) _ _ _ rfl (HO.out.1.alloc _) ⟨wr.heap.size, 0, none⟩ 1 1 [.int .i64 (z)] rfl rfl (oneI_news _ _) (oneI_cells _) (by unfold maxLen; omega) (by omega) (by have := HO.out.2.size; simp; omega) ?_; intro v' w9 hown' hgrow _)
            have H3 := Lib.hid (outsI_next (z := z) HO.out hown' hgrow)
            go_roundw
            case rel => exact ⟨k + 1, by omega, by go_num, by rw [HN1.out], by rw [HN1.out]; exact H3.out⟩
            case measure => simp [intOf]; omega
          · skip
            have HN1 : Hid (ps (k + 1) = ((ps k).1 ++ [n] ++ [z], true)) := Lib.hid (by rw [HPN.out, if_neg (by rw [hd]; simp), if_neg h1, if_neg h2])
            clear hd
            have h3 : n ≤ z := by omega
            have h4 : n < z := by omega
            clear h2
            generalize hpk : (ps k).1 = zk at *; clear hpk
            have HZG := Lib.hid (by have := ivals_get hlt; rw [hz] at this; exact this)
            have HZ9 : Hid ((zk ++ [n]).length ≤ 2 * k + 1) := Lib.hid (by rw [List.length_append]; simp; omega)
            go_wp2_with (first | (at_builtin; refine wpList_append_own _ rfl _ _ 52 rfl w.heap.size 2 ti (.int .i64 0) 1 8 Try.underlying52 HI.out HZ0.out HZ1.out HZ2.out rfl (by decide) _ _ _ rfl (HO.out.1.alloc _) ⟨wr.heap.size, 0, none⟩ 1 1 [.int .i64 (n)] rfl rfl (oneI_news _ _) (oneI_cells _) (by unfold maxLen; omega) (by omega) (by have := HO.out.2.size; simp; omega) ?_; intro v' w9 hown' hgrow _; have H3 := Lib.hid (outsI_next (z := n) HO.out hown' hgrow); obtain ⟨bb2, ob2, hac2, f1⟩ := (ha.later H3.out.2) k _ HZG.out; cases hac2; replace HO := H3; clear H3 hown' hgrow f0; have f0 := f1; clear f1; have hzl2 : (zk ++ [n]).length ≤ 2 * k + 1 := HZ9.out) | (at_builtin; refine wpList_append_own _ rfl _ _ 52 rfl w.heap.size 2 ti (.int .i64 0) 1 8 Try.underlying52 HI.out HZ0.out HZ1.out HZ2.out rfl (by decide) _ _ _ rfl (HO.out.1.alloc _) ⟨w9.heap.size, 0, none⟩ 1 1 [.int .i64 (z)] rfl rfl (oneI_news _ _) (oneI_cells _) (by unfold maxLen; omega) (by omega) (by have := HO.out.2.size; simp; omega) ?_; intro v2 w8 hown2 hgrow2 _))
            have H4 := Lib.hid (outsI_next (z := z) HO.out hown2 hgrow2)
            go_roundw
            case rel => exact ⟨k + 1, by omega, by go_num, by rw [HN1.out], by rw [HN1.out]; exact H4.out⟩
            case measure => simp [intOf]; omega
      · skip
        have HN1 : Hid (ps (k + 1) = ((ps k).1 ++ [z], true)) := Lib.hid (by rw [HPN.out, if_pos hd])
        clear hd
        generalize hpk : (ps k).1 = zk at *; clear hpk
        go_wp2_with (at_builtin; refine wpList_append_own _ rfl _ _ 52 rfl w.heap.size 2 ti (.int .i64 0) 1 8 Try.underlying52 HI.out HZ0.out HZ1.out HZ2.out rfl (by decide) _ _ _ rfl (HO.out.1.alloc _) ⟨wr.heap.size, 0, none⟩ 1 1 [.int .i64 (z)] rfl rfl (oneI_news _ _) (oneI_cells _) (by unfold maxLen; omega) (by omega) (by have := HO.out.2.size; simp; omega) ?_; intro v' w9 hown' hgrow _)
        have H3 := Lib.hid (outsI_next (z := z) HO.out hown' hgrow)
        go_roundw
        case rel => exact ⟨k + 1, by omega, by go_num, by rw [HN1.out], by rw [HN1.out]; exact H3.out⟩
        case measure => simp [intOf]; omega
    · skip
      obtain rfl : k = zs.length := by omega
      rcases hd : (ps zs.length).2 with _ | _
      · skip
        have HLL := Lib.hid (HLF.out hd); clear hd
        generalize hpk : (ps zs.length).1 = zk at *; clear hpk
        go_wp2_with (at_builtin; refine wpList_append_own _ rfl _ _ 52 rfl w.heap.size 2 ti (.int .i64 0) 1 8 Try.underlying52 HI.out HZ0.out HZ1.out HZ2.out rfl (by decide) _ _ _ rfl (HO.out.1.alloc _) ⟨wr.heap.size, 0, none⟩ 1 1 [.int .i64 (n)] rfl rfl (oneI_news _ _) (oneI_cells _) (by unfold maxLen; omega) (by omega) (by have := HO.out.2.size; simp; omega) ?_; intro v' w9 hown' hgrow _)
        have H3 := Lib.hid (outsI_next (z := n) HO.out hown' hgrow)
        obtain ⟨a2, c2, e, OW, B⟩ := outsI_end H3.out
        rw [← HLL.out] at e OW
        have HE := Lib.hid e; clear e
        go_ret
        first | exact ⟨a2, c2, by rw [← HE.out]; rfl, OW, B⟩ | exact ⟨a2, ⟨c2, by rw [← HE.out]; rfl⟩, OW, B⟩
      · skip
        have HLL := Lib.hid (HLT.out hd); clear hd
        obtain ⟨a2, c2, e, OW, B⟩ := outsI_end HO.out
        rw [← HLL.out] at e OW
        have HE := Lib.hid e; clear e
        go_wp2
        go_ret
        first | exact ⟨a2, c2, by rw [← HE.out]; rfl, OW, B⟩ | exact ⟨a2, ⟨c2, by rw [← HE.out]; rfl⟩, OW, B⟩

/-- a number put to its place -/
def insI (n : Int) : List Int → List Int
  | [] => [n]
  | z :: zs => if z < n then z :: insI n zs else if z = n then z :: zs else n :: z :: zs
def haloM (hi fr : Int) (wb : Bool) : Nat → List Int
  | 0 => []
  | k + 1 => if wb then insI ((fr - 1 + (k : Int) + hi) % hi) (haloM hi fr wb k) else if 0 ≤ fr - 1 + (k : Int) ∧ fr - 1 + (k : Int) ≤ hi - 1 then insI (fr - 1 + (k : Int)) (haloM hi fr wb k) else haloM hi fr wb k

theorem halo_tab : ∀ h ∈ List.range 17, ∀ f ∈ List.range 17, ∀ c ∈ List.range 17, (!(decide (3 ≤ h) && decide (1 ≤ c) && decide (f + c ≤ h)) || (haloM (h : Int) (f : Int) true (c + 2) == haloL (h : Int) (f : Int) (c : Int) true && haloM (h : Int) (f : Int) false (c + 2) == haloL (h : Int) (f : Int) (c : Int) false)) = true := by decide +kernel

theorem halo_eq {hi fr ct : Int} {wb : Bool} (s3 : 3 ≤ hi) (s4 : hi ≤ 16) (f0 : 0 ≤ fr) (f1 : fr + ct ≤ hi) (f3 : 1 ≤ ct) {k : Nat} (hk : (k : Int) = ct + 2) : haloM hi fr wb k = haloL hi fr ct wb := by
  obtain ⟨h, rfl⟩ := Int.eq_ofNat_of_zero_le (show 0 ≤ hi by omega)
  obtain ⟨f, rfl⟩ := Int.eq_ofNat_of_zero_le f0
  obtain ⟨c, rfl⟩ := Int.eq_ofNat_of_zero_le (show 0 ≤ ct by omega)
  obtain rfl : k = c + 2 := by omega
  have h9 := halo_tab h (List.mem_range.2 (by omega)) f (List.mem_range.2 (by omega)) c (List.mem_range.2 (by omega))
  rw [decide_eq_true (show 3 ≤ h by omega), decide_eq_true (show 1 ≤ c by omega), decide_eq_true (show f + c ≤ h by omega)] at h9
  simp only [Bool.and_true, Bool.not_true, Bool.false_or, Bool.and_eq_true, beq_iff_eq] at h9
  cases wb
  · exact h9.2
  · exact h9.1

theorem ins_not {n : Int} {ys : List Int} : ∀ {xs : List Int}, (∀ z ∈ xs, z < n) → insI n (xs ++ ys) = xs ++ insI n ys
  | [], _ => rfl
  | x :: xs, h => by
    show (if x < n then x :: insI n (xs ++ ys) else _) = x :: (xs ++ insI n ys)
    rw [if_pos (h x (by simp)), ins_not (fun z hz => h z (by simp [hz]))]
theorem ins_len (n : Int) : ∀ zs : List Int, (insI n zs).length ≤ zs.length + 1
  | [] => by simp [insI]
  | z :: zs => by
    have := ins_len n zs
    unfold insI
    (repeat' split) <;> simp <;> omega
theorem haloM_len (hi fr : Int) (wb : Bool) : ∀ k, (haloM hi fr wb k).length ≤ k
  | 0 => Nat.le_refl _
  | k + 1 => by
    have h0 := haloM_len hi fr wb k
    have h1 := fun n => ins_len n (haloM hi fr wb k)
    unfold haloM
    (repeat' split)
    · have := h1 ((fr - 1 + (k : Int) + hi) % hi); omega
    · have := h1 (fr - 1 + (k : Int)); omega
    · omega
theorem putS_ins (zs : List Int) (n : Int) : ∀ k, k ≤ zs.length → ((putS zs n k).2 = false ∧ (putS zs n k).1 = zs.take k ∧ ∀ z ∈ zs.take k, z < n) ∨ ((putS zs n k).2 = true ∧ ∀ ys, insI n (zs.take k ++ ys) = (putS zs n k).1 ++ ys)
  | 0, _ => .inl ⟨rfl, by simp [putS], by simp⟩
  | k + 1, hk => by
    have hlt : k < zs.length := by omega
    have e : zs.take (k + 1) = zs.take k ++ [zs[k]] := List.take_succ_eq_append_getElem hlt
    have g : zs.getD k 0 = zs[k] := getD_getI hlt
    rcases putS_ins zs n k (by omega) with ⟨h1, h2, h3⟩ | ⟨h1, h2⟩
    · by_cases c1 : zs[k] < n
      · have e2 : putS zs n (k + 1) = ((putS zs n k).1 ++ [zs[k]], false) := by
          conv => lhs; unfold putS
          rw [g, if_neg (by rw [h1]; simp), if_pos c1]
        refine .inl ⟨by rw [e2], by rw [e2, h2, e], fun z hz => ?_⟩
        rw [e, List.mem_append, List.mem_singleton] at hz
        rcases hz with hz | hz
        · exact h3 z hz
        · rw [hz]; exact c1
      · by_cases c2 : zs[k] = n
        · have e2 : putS zs n (k + 1) = ((putS zs n k).1 ++ [zs[k]], true) := by
            conv => lhs; unfold putS
            rw [g, if_neg (by rw [h1]; simp), if_neg c1, if_pos c2]
          refine .inr ⟨by rw [e2], fun ys => ?_⟩
          rw [e2, e, h2, List.append_assoc, ins_not h3]
          show zs.take k ++ (if zs[k] < n then zs[k] :: insI n ys else if zs[k] = n then zs[k] :: ys else n :: zs[k] :: ys) = _
          rw [if_neg c1, if_pos c2]; simp
        · have e2 : putS zs n (k + 1) = ((putS zs n k).1 ++ [n] ++ [zs[k]], true) := by
            conv => lhs; unfold putS
            rw [g, if_neg (by rw [h1]; simp), if_neg c1, if_neg c2]
          refine .inr ⟨by rw [e2], fun ys => ?_⟩
          rw [e2, e, h2, List.append_assoc, ins_not h3]
          show zs.take k ++ (if zs[k] < n then zs[k] :: insI n ys else if zs[k] = n then zs[k] :: ys else n :: zs[k] :: ys) = _
          rw [if_neg c1, if_neg c2]; simp
    · have e2 : putS zs n (k + 1) = ((putS zs n k).1 ++ [zs[k]], true) := by
        conv => lhs; unfold putS
        rw [g, if_pos h1]
      refine .inr ⟨by rw [e2], fun ys => ?_⟩
      rw [e2, e, List.append_assoc, h2]; simp
theorem putL_ins (zs : List Int) (n : Int) : putL zs n = insI n zs := by
  unfold putL
  rcases putS_ins zs n zs.length (Nat.le_refl _) with ⟨h1, h2, h3⟩ | ⟨h1, h2⟩
  · rw [List.take_length] at h2 h3
    rw [if_neg (by rw [h1]; simp), h2]
    have := ins_not (ys := []) h3
    rw [List.append_nil] at this
    rw [this]; rfl
  · rw [List.take_length] at h2
    have := h2 []
    rw [List.append_nil, List.append_nil] at this
    rw [if_pos h1, this]

set_option maxHeartbeats 8000000 in
set_option maxRecDepth 100000 in
theorem specHaloOf (g gp : Nat) (wd hi fr ct : Int) (wb : Bool) (v3 v4 : Value) (w : World) (X : Blk w g #[.int .i64 wd, .int .i64 hi, .bool wb, v3, v4] 29) (Q : Blk w gp #[.int .i64 fr, .int .i64 ct] 31) (s3 : 3 ≤ hi) (s4 : hi ≤ 16) (f0 : 0 ≤ fr) (f1 : fr + ct ≤ hi) (f3 : 1 ≤ ct) :
    Calls Try.prog 71 #[.pointer (some ⟨g, 0, none⟩), .pointer (some ⟨gp, 0, none⟩)] w fun e w' => ∃ a c, e = .returned (.slice a (haloL hi fr ct wb).length c) ∧ OwnV w' w.heap.size a (ivals (haloL hi fr ct wb)) ∧ Below w.heap.size w w' := by
  have HEQ : Hid (∀ k : Nat, (k : Int) = ct + 2 → haloM hi fr wb k = haloL hi fr ct wb) := Lib.hid (fun k hk => halo_eq s3 s4 f0 f1 f3 hk)
  have HLN := Lib.hid (haloM_len hi fr wb)
  have HM1 : Hid (∀ k, haloM hi fr wb (k + 1) = if wb then insI ((fr - 1 + (k : Int) + hi) % hi) (haloM hi fr wb k) else if 0 ≤ fr - 1 + (k : Int) ∧ fr - 1 + (k : Int) ≤ hi - 1 then insI (fr - 1 + (k : Int)) (haloM hi fr wb k) else haloM hi fr wb k) := Lib.hid (fun k => rfl)
  have HM0 : Hid (haloM hi fr wb 0 = []) := Lib.hid rfl
  generalize haloL hi fr ct wb = LL at *
  generalize hmm : haloM hi fr wb = M at *; clear hmm
  have ai64 : ∀ w, (isAgg 2).run Try.prog w = .ok false w := fun w => by kernel_rfl
  have HWC : Hid (IntKind.i64.wrap (fr + ct) = fr + ct) := Lib.hid (IntWalk.i64_in _ (by omega))
  have Q1 := Q.alloc (.cells #[] 2)
  obtain ⟨Q1c, Q1f⟩ := Q1.open
  go_enter Try.func71, Try.ntmps71
  go_wp2
  go_loopw [5, 6] (fun q yv wr => ∃ (k : Nat) (a : Option Addr) (c : Nat), (k : Int) ≤ ct + 2 ∧ yv = .int .i64 (fr - 1 + k) ∧ q = .slice a (M k).length c ∧ OwnV wr w.heap.size a (ivals (M k)) ∧ Below w.heap.size w wr ∧ Blk wr g #[.int .i64 wd, .int .i64 hi, .bool wb, v3, v4] 29 ∧ Blk wr gp #[.int .i64 fr, .int .i64 ct] 31) (fun _ yv _ => (fr + ct + 1 - intOf yv).toNat)
  case atStart => exact ⟨0, some ⟨w.heap.size, 0, none⟩, 0, by omega, by simp, by rw [HM0.out]; rfl, by rw [HM0.out]; exact .inr ⟨w.heap.size, _, _, rfl, Nat.le_refl _, Blk.new w _ _, fun i u hu => by simp [ivals] at hu⟩, below_new _ _, X.later (below_new _ _), Q.later (below_new _ _)⟩
  case round =>
    clear Q1c Q1f Q1 X Q
    obtain ⟨k, a, c, hk, rfl, rfl, O, hb, X, Q⟩ := hrel
    have HO := Lib.hid O; have HB := Lib.hid hb; clear O hb
    have hml := HLN.out k
    have zx := X.lt; have zq := Q.lt
    have hm1 := HM1.out k; replace hm1 := Lib.hid hm1
    obtain ⟨Xc, Xf⟩ := X.open; obtain ⟨Qc, Qf⟩ := Q.open
    go_upto_region 3 with (fail)
    refine wp_region_noPanic ?_
    refine wp_region_plan (Grows wr) 10 [(0, true), (1, true), (2, true), (3, true), (4, true), (5, true), (6, true), (7, true), (8, true), (9, true)] (by kernel_rfl) (by kernel_rfl) (fun _ _ _ _ _ h => h) (Grows.drew _) ?_
    (refine plan_plain rfl rfl ?_ ?_ ?_; rotate_left; focus (intro w9; go_simp <;> with_reducible rfl)); (simp only [Act.put, List.setIfInBounds_toArray, List.set_cons_zero, List.set_cons_succ, List.getElem_toArray, List.getElem_cons_zero, List.getElem_cons_succ])
    (refine plan_plain rfl rfl ?_ ?_ ?_; rotate_left; focus (intro w9; go_simp <;> with_reducible rfl)); (simp only [Act.put, List.setIfInBounds_toArray, List.set_cons_zero, List.set_cons_succ, List.getElem_toArray, List.getElem_cons_zero, List.getElem_cons_succ])
    (refine plan_plain rfl rfl ?_ ?_ ?_; rotate_left; focus (intro w9; go_simp <;> with_reducible rfl)); (simp only [Act.put, List.setIfInBounds_toArray, List.set_cons_zero, List.set_cons_succ, List.getElem_toArray, List.getElem_cons_zero, List.getElem_cons_succ])
    (refine plan_plain rfl rfl ?_ ?_ ?_; rotate_left; focus (intro w9; go_simp <;> with_reducible rfl)); (simp only [Act.put, List.setIfInBounds_toArray, List.set_cons_zero, List.set_cons_succ, List.getElem_toArray, List.getElem_cons_zero, List.getElem_cons_succ])
    (refine plan_load rfl rfl (⟨gp, 0, none⟩) (by kernel_rfl) (.int .i64 fr) (load_cell ai64 (Qc 0)) ?_; simp only [Act.put, List.setIfInBounds_toArray, List.set_cons_zero, List.set_cons_succ, List.getElem_toArray, List.getElem_cons_zero, List.getElem_cons_succ])
    (refine plan_plain rfl rfl ?_ ?_ ?_; rotate_left; focus (intro w9; go_simp <;> with_reducible rfl)); (simp only [Act.put, List.setIfInBounds_toArray, List.set_cons_zero, List.set_cons_succ, List.getElem_toArray, List.getElem_cons_zero, List.getElem_cons_succ])
    (refine plan_plain rfl rfl ?_ ?_ ?_; rotate_left; focus (intro w9; go_simp <;> with_reducible rfl)); (simp only [Act.put, List.setIfInBounds_toArray, List.set_cons_zero, List.set_cons_succ, List.getElem_toArray, List.getElem_cons_zero, List.getElem_cons_succ])
    (refine plan_plain rfl rfl ?_ ?_ ?_; rotate_left; focus (intro w9; go_simp <;> with_reducible rfl)); (simp only [Act.put, List.setIfInBounds_toArray, List.set_cons_zero, List.set_cons_succ, List.getElem_toArray, List.getElem_cons_zero, List.getElem_cons_succ])
    (refine plan_load rfl rfl (⟨gp, 1, none⟩) (by kernel_rfl) (.int .i64 ct) (load_cell ai64 (Qc 1)) ?_; simp only [Act.put, List.setIfInBounds_toArray, List.set_cons_zero, List.set_cons_succ, List.getElem_toArray, List.getElem_cons_zero, List.getElem_cons_succ])
    (refine plan_plain rfl rfl ?_ ?_ ?_; rotate_left; focus (intro w9; go_simp <;> with_reducible rfl)); (simp only [Act.put, List.setIfInBounds_toArray, List.set_cons_zero, List.set_cons_succ, List.getElem_toArray, List.getElem_cons_zero, List.getElem_cons_succ])
    simp only [HWC.out]
    change wpList _ _ _ _ _ _
    simp only [List.drop_succ_cons, List.drop_zero]
    have b_ : Below wr.heap.size wr wr.drew := Grows.drew wr
    generalize wr.drew = w1 at *
    clear Xc Xf Qc Qf
    replace X := X.later b_; replace Q := Q.later b_; replace HO := Lib.hid (HO.out.later b_); replace HB := Lib.hid (HB.out.trans (b_.mono HB.out.size)); clear b_
    obtain ⟨Xc, Xf⟩ := X.open; obtain ⟨Qc, Qf⟩ := Q.open
    by_cases hlt : fr - 1 + (k : Int) ≤ fr + ct
    · skip
      generalize hy : fr - 1 + (k : Int) = y at *
      have HY := Lib.hid hy; clear hy
      have hy0 : -1 ≤ y := by have := HY.out; omega
      have HWY : Hid (wrap64 (y + 1) = y + 1) := Lib.hid (by unfold wrap64; omega)
      rcases wb with _ | _
      · skip
        rcases hin : decide (0 ≤ y ∧ y ≤ hi - 1) with _ | _
        · skip
          have HM2 : Hid (M (k + 1) = M k) := Lib.hid (by rw [hm1.out, if_neg (by simp)]; exact if_neg (of_decide_eq_false hin))
          have HIN := Lib.hid hin; clear hin hm1
          go_wp2_with fail
          refine NoPanic.normal ?_
          go_wp2_with fail
          refine (l00In_any _ _ _ _).mono ?_
          rintro r w9 ⟨rfl, rfl⟩
          rw [HIN.out]
          go_wp2
          go_roundw
          case rel => exact ⟨k + 1, a, c, by have := HY.out; omega, by rw [← HY.out]; simp; omega, by rw [HM2.out], by rw [HM2.out]; exact HO.out, HB.out, X, Q⟩
          case measure => have hy9 := HY.out; simp [intOf]; omega
        · skip
          have HM2 : Hid (M (k + 1) = insI y (M k)) := Lib.hid (by rw [hm1.out, if_neg (by simp)]; exact if_pos (of_decide_eq_true hin))
          have HIN := Lib.hid hin; clear hin hm1
          go_wp2_with fail
          refine NoPanic.normal ?_
          go_wp2_with fail
          refine (l00In_any _ _ _ _).mono ?_
          rintro r w9 ⟨rfl, rfl⟩
          rw [HIN.out]
          have HBS := HB.out.size
          go_wp2_with fail
          refine (specPut a c (M k) y _ HO.out.row (by omega)).mono ?_
          rintro r w2 ⟨a2, c2, rfl, O2, q⟩
          rw [putL_ins] at O2 ⊢
          replace O2 := Lib.hid (O2.lower HBS)
          clear Xc Xf Qc Qf
          replace X := X.later q; replace Q := Q.later q; replace HB := Lib.hid (HB.out.trans (q.mono HB.out.size)); clear q
          go_wp2
          go_roundw
          case rel => exact ⟨k + 1, a2, c2, by have := HY.out; omega, by rw [← HY.out]; simp; omega, by rw [HM2.out], by rw [HM2.out]; exact O2.out, HB.out, X, Q⟩
          case measure => have hy9 := HY.out; simp [intOf]; omega
      · skip
        have HM2 : Hid (M (k + 1) = insI ((y + hi) % hi) (M k)) := Lib.hid (by rw [hm1.out]; exact if_pos rfl)
        clear hm1
        have HW1 : Hid (IntKind.i64.wrap (y + hi) = y + hi) := Lib.hid (IntWalk.i64_in _ (by omega))
        have HR2 : Hid ((y + hi).tmod hi = (y + hi) % hi) := Lib.hid (Int.tmod_eq_emod_of_nonneg (by omega))
        have hne : (hi == 0) = false := by simp; omega
        have hz : hi ≠ 0 := by omega
        go_wp2_with fail
        refine NoPanic.normal ?_
        go_upto_region 6 with (fail)
        refine wp_region_noPanic ?_
        refine wp_region_plan (Grows w1) 13 [(0, true), (1, true), (2, true), (3, true), (4, true), (5, true), (6, true), (7, true), (8, true), (9, true), (10, true), (11, true), (12, false)] (by kernel_rfl) (by kernel_rfl) (fun _ _ _ _ _ h => h) (Grows.drew _) ?_
        (refine plan_plain rfl rfl ?_ ?_ ?_; rotate_left; focus (intro w9; go_simp <;> with_reducible rfl)); (simp only [Act.put, List.setIfInBounds_toArray, List.set_cons_zero, List.set_cons_succ, List.getElem_toArray, List.getElem_cons_zero, List.getElem_cons_succ])
        (refine plan_plain rfl rfl ?_ ?_ ?_; rotate_left; focus (intro w9; go_simp <;> with_reducible rfl)); (simp only [Act.put, List.setIfInBounds_toArray, List.set_cons_zero, List.set_cons_succ, List.getElem_toArray, List.getElem_cons_zero, List.getElem_cons_succ])
        (refine plan_plain rfl rfl ?_ ?_ ?_; rotate_left; focus (intro w9; go_simp <;> with_reducible rfl)); (simp only [Act.put, List.setIfInBounds_toArray, List.set_cons_zero, List.set_cons_succ, List.getElem_toArray, List.getElem_cons_zero, List.getElem_cons_succ])
        (refine plan_plain rfl rfl ?_ ?_ ?_; rotate_left; focus (intro w9; go_simp <;> with_reducible rfl)); (simp only [Act.put, List.setIfInBounds_toArray, List.set_cons_zero, List.set_cons_succ, List.getElem_toArray, List.getElem_cons_zero, List.getElem_cons_succ])
        (refine plan_plain rfl rfl ?_ ?_ ?_; rotate_left; focus (intro w9; go_simp <;> with_reducible rfl)); (simp only [Act.put, List.setIfInBounds_toArray, List.set_cons_zero, List.set_cons_succ, List.getElem_toArray, List.getElem_cons_zero, List.getElem_cons_succ])
        (refine plan_load rfl rfl (⟨g, 1, none⟩) (by kernel_rfl) (.int .i64 hi) (load_cell ai64 (Xc 1)) ?_; simp only [Act.put, List.setIfInBounds_toArray, List.set_cons_zero, List.set_cons_succ, List.getElem_toArray, List.getElem_cons_zero, List.getElem_cons_succ])
        (refine plan_plain rfl rfl ?_ ?_ ?_; rotate_left; focus (intro w9; go_simp <;> with_reducible rfl)); (simp only [Act.put, List.setIfInBounds_toArray, List.set_cons_zero, List.set_cons_succ, List.getElem_toArray, List.getElem_cons_zero, List.getElem_cons_succ])
        simp only [HW1.out]
        (refine plan_plain rfl rfl ?_ ?_ ?_; rotate_left; focus (intro w9; go_simp <;> with_reducible rfl)); (simp only [Act.put, List.setIfInBounds_toArray, List.set_cons_zero, List.set_cons_succ, List.getElem_toArray, List.getElem_cons_zero, List.getElem_cons_succ])
        (refine plan_plain rfl rfl ?_ ?_ ?_; rotate_left; focus (intro w9; go_simp <;> with_reducible rfl)); (simp only [Act.put, List.setIfInBounds_toArray, List.set_cons_zero, List.set_cons_succ, List.getElem_toArray, List.getElem_cons_zero, List.getElem_cons_succ])
        (refine plan_plain rfl rfl ?_ ?_ ?_; rotate_left; focus (intro w9; go_simp <;> with_reducible rfl)); (simp only [Act.put, List.setIfInBounds_toArray, List.set_cons_zero, List.set_cons_succ, List.getElem_toArray, List.getElem_cons_zero, List.getElem_cons_succ])
        (refine plan_load rfl rfl (⟨g, 1, none⟩) (by kernel_rfl) (.int .i64 hi) (load_cell ai64 (Xc 1)) ?_; simp only [Act.put, List.setIfInBounds_toArray, List.set_cons_zero, List.set_cons_succ, List.getElem_toArray, List.getElem_cons_zero, List.getElem_cons_succ])
        (refine plan_plain rfl rfl ?_ ?_ ?_; rotate_left; focus (intro w9; go_simp <;> with_reducible rfl)); (simp only [Act.put, List.setIfInBounds_toArray, List.set_cons_zero, List.set_cons_succ, List.getElem_toArray, List.getElem_cons_zero, List.getElem_cons_succ])
        simp only [HR2.out]
        have v0_ := Grows.drew w1
        generalize w1.drew = v0 at *
        have HBS := HB.out.size; have v0s := Below.size v0_
        refine plan_call rfl rfl 112 #[] #[] rfl _ Try.func112 (by kernel_rfl) (by kernel_rfl) [.slice a (M k).length c, .int .i64 ((y + hi) % hi)] (by kernel_rfl) #[.slice a (M k).length c, .int .i64 ((y + hi) % hi)] (by simp) _ (specPut a c (M k) ((y + hi) % hi) v0 (HO.out.row.later v0_) (by omega)) ?_
        rintro e v1 ⟨a2, c2, rfl, O2, q⟩
        refine ⟨_, rfl, v0_.next q, ?_⟩
        simp only [Act.put, List.setIfInBounds_toArray, List.set_cons_zero, List.set_cons_succ, List.getElem_toArray, List.getElem_cons_zero, List.getElem_cons_succ]
        have v1_ := v0_.next q; rw [putL_ins] at O2 ⊢
        change wpList _ _ _ _ _ _
        simp only [List.drop_succ_cons, List.drop_zero]
        replace O2 := Lib.hid (O2.lower (show w.heap.size ≤ v0.heap.size by omega))
        replace v1_ : Below w1.heap.size w1 v1 := v1_
        clear Xc Xf Qc Qf q v0_
        replace X := X.later v1_; replace Q := Q.later v1_; replace HB := Lib.hid (HB.out.trans (v1_.mono HB.out.size)); clear v1_
        go_wp2_with fail
        refine NoPanic.normal ?_
        go_wp2
        go_roundw
        case rel => exact ⟨k + 1, a2, c2, by have := HY.out; omega, by rw [← HY.out]; simp; omega, by rw [HM2.out], by rw [HM2.out]; exact O2.out, HB.out, X, Q⟩
        case measure => have hy9 := HY.out; simp [intOf]; omega
    · skip
      have ez := HEQ.out k (by omega)
      rw [ez] at HO ⊢
      have HEZ := Lib.hid ez; clear ez
      go_wp2_with fail
      refine NoPanic.normal ?_
      go_wp2
      go_ret
      first | exact ⟨a, c, rfl, HO.out, HB.out⟩ | exact ⟨a, ⟨c, rfl⟩, HO.out, HB.out⟩ | trace_state

end Go.Proofs.Ytedfbaeajofmnaa
