/- slices.Repeat of one number. Conditions: none beyond those of each theorem. -/
import Derived.Test.YtkcododhfliobabBu5
import Derived.Shelf.Bits.Mul64
import Derived.Laws.CopyOwn
import Derived.Deep.RegionLaw
namespace Go.Proofs.Ytkcododhfliobab
open Go Ieee Go.RowKit
set_option linter.unusedVariables false

theorem mul64One (n : Nat) (hn : n ≤ 256) (w : World) : Calls Try.prog 140 #[.int .u64 1, .int .u64 n] w fun e w' => e = .returned (.tuple #[.int .u64 0, .int .u64 n]) ∧ w' = w := by
  have m1 : bits .and .u64 1 4294967295 = 1 := by decide
  have mn : bits .and .u64 (n : Int) 4294967295 = n := by rw [Mul64.maskN n (by omega), Nat.mod_eq_of_lt (by omega)]
  have d0 : (n : Int) / 4294967296 = 0 := by omega
  have d1 : IntKind.u64.wrap (n : Int) = n := Mul64.wrapN n (by omega)
  have m0 : bits .and .u64 0 4294967295 = 0 := by decide
  go_enter Try.func140, Try.ntmps140
  go_wp2
  go_ret2
  exact ⟨rfl, rfl⟩

theorem mulOne (n : Nat) (hn : n ≤ 256) (w : World) : Calls Try.prog 115 #[.int .u64 1, .int .u64 n] w fun e w' => e = .returned (.tuple #[.int .u64 0, .int .u64 n]) ∧ w' = w := by
  go_enter Try.func115, Try.ntmps115
  go_wp2_with fail
  refine (mul64One n hn _).mono ?_
  rintro e w' ⟨rfl, hw⟩
  rw [hw]
  go_wp2
  go_ret2
  exact ⟨rfl, rfl⟩

theorem splice_val {L : List Value} {k : Nat} {cs : List Value} {v : Value} (hL : k + cs.length ≤ L.length) (h : ∀ i, i < k → L[i]? = some v) (hc : ∀ i, i < cs.length → cs[i]? = some v) : ∀ i, i < k + cs.length → (splice L k cs)[i]? = some v := by
  intro i hi
  unfold splice
  by_cases h1 : i < k
  · rw [List.getElem?_append_left (by rw [List.length_take]; omega), List.getElem?_take, if_pos h1]; exact h i h1
  · rw [List.getElem?_append_right (by rw [List.length_take]; omega), List.length_take, Nat.min_eq_left (by omega), List.getElem?_append_left (by omega)]
    exact hc _ (by omega)

theorem wp_copy_splice {P : Program} {o : Oper} {a : Act} {w : World} {K : Act → World → Prop} {Q : Exit → Act → World → Prop} (hgd : o.guard = none) (d s : Operand) (dT sT : TypeId)
    (ho : o.op = .call { callee := .builtin .copy, args := #[d, s], argTypes := #[dT, sT] }) (elem : TypeId) (hu : P.underlying dT = some (.slice elem)) (hsz : (P.info? elem).map (·.size) = some 1)
    (dp sp : Option Addr) (dLen dCap sLen sCap : Nat) (hd : a.eval d = .slice dp dLen dCap) (hs : a.eval s = .slice sp sLen sCap)
    (g off : Nat) (cur : List Value) (t : TypeId) (hg : w.heap[g]? = some (.cells cur.toArray t (0, 0))) (cs : List Value) (hn : cs.length = Nat.min sLen dLen)
    (hpos : 0 < cs.length → dp = some ⟨g, off, none⟩ ∧ ∃ ad, sp = some ad ∧ ∀ j v, cs[j]? = some v → w.cell? (ad.add j) = some v)
    (hfit : off + cs.length ≤ cur.length) (h1 : ∀ v ∈ cs, v.oneCell' = true) (B : Nat) (w0 : World) (hb : Below B w0 w) (hBg : B ≤ g)
    (h : ∀ w', Hid (w'.heap[g]? = some (.cells (splice cur off cs).toArray t (0, 0))) → Below B w0 w' → K (a.put o.dst (goInt cs.length)) w') : Oper.wp P o a w K Q := by
  have H := step_copy_splice (E := True) (ops := #[]) (Q := Q) hgd d s dT sT ho elem hu hsz dp sp dLen dCap sLen sCap hd hs g off cur t hg cs hn hpos hfit h1 B w0 hb hBg h
  rwa [if_pos (by simp [Region.wanted, hgd])] at H

theorem made_row {w1 : World} {B g n : Nat} {e : TypeId} {vs : List Value} (h : w1.ownsRow B e 1 (.slice (some ⟨g, 0, none⟩) n n) n vs) : ∃ cur : List Value, w1.heap[g]? = some (.cells cur.toArray e (0, 0)) ∧ n ≤ cur.length := by
  rcases h.2 with ⟨h', _⟩ | ⟨g', cap', cur, h', hg, hh, h1, _, h3, _⟩
  · simp at h'
  · simp only [Value.slice.injEq, Option.some.injEq, Addr.mk.injEq] at h'
    obtain ⟨⟨rfl, _⟩, _, rfl⟩ := h'
    exact ⟨cur.toList, by simpa using hh, by simp; omega⟩

set_option maxHeartbeats 4000000 in
set_option maxRecDepth 100000 in
theorem implRepeat (x : Nat) (a : Option Addr) (ca : Nat) (n : Nat) (w : World) (ha : RowV w a (fvals [x])) (hn : 0 < n) (h256 : n ≤ 256) :
    Calls Try.prog 70 #[.slice a 1 ca, .int .i64 n] w fun e w' => ∃ g, e = .returned (.slice (some ⟨g, 0, none⟩) n n) ∧ OwnV w' w.heap.size (some ⟨g, 0, none⟩) (fvals (List.replicate n x)) ∧ Below w.heap.size w w' := by
  obtain ⟨i0, hi, hz0, hz1, hz2⟩ := info_parts Try.infoF32
  have hn1 : (n : Int) ≤ 256 := by omega
  have hn0 : (0 : Int) < (n : Int) := by omega
  have hbytes : i0.bytes * n ≤ 281474976710656 := by rw [hz2]; omega
  have HI := Lib.hid hi
  have HZ0 := Lib.hid hz0
  have HZ1 := Lib.hid hz1
  clear hi hz0 hz1 hz2
  have hwu : IntKind.u64.wrap (n : Int) = n := Mul64.wrapN n (by omega)
  have hwi : IntKind.i64.wrap (n : Int) = n := by rw [IntKind.wrap_i64]; omega
  obtain ⟨b, off, rfl, hc⟩ := ha 0 _ (fvals_get (show 0 < [x].length by simp))
  go_enter Try.func70, Try.ntmps70
  go_wp2_with fail
  refine (mulOne n h256 _).mono ?_
  rintro e w' ⟨rfl, hw⟩
  rw [hw]; clear hw w'
  have hsz : (Try.prog.info? 40).map (·.size) = some 1 := by rw [HI.out]; exact congrArg some HZ1.out
  have HSZ := Lib.hid hsz; clear hsz
  have hx : (.float .f32 [x][0] : Value) = .float .f32 x := rfl
  rw [hx] at hc; clear hx
  go_wp2_with (first
    | (at_make; refine wpList_make_full _ rfl _ _ 22 rfl w.heap.size 40 i0 (.float .f32 0) 1 Try.underlying22 HI.out HZ0.out HZ1.out .i64 .i64 _ _ n rfl rfl rfl rfl hbytes (by unfold maxLen; omega) (Nat.le_refl _) ?_; intro w1 hown hgrow; obtain ⟨cur, hg1, hl1⟩ := made_row hown; have HB1 := Lib.hid ((Below.refl w.heap.size w).grown hgrow (Nat.le_refl _) (fun k hk => by cases hk)); clear hown hgrow; have HG1 := Lib.hid hg1; clear hg1; have hc1 := (Below.cell HB1.out (p := ⟨b, off + 0, none⟩) (lt_of_cell hc)).trans hc; have HC1 := Lib.hid hc1; clear hc1 hc)
    | (refine wpList_copy_splice rfl (.tmp 31) (.tmp 32) 22 22 rfl 40 Try.underlying22 HSZ.out _ _ _ _ _ _ rfl rfl w.heap.size 0 cur 40 HG1.out [.float .f32 x] (by show (1 : Nat) = min 1 n; omega) (fun _ => ⟨rfl, _, rfl, fun j v hj => by (obtain rfl : j = 0 := by (have := (List.getElem?_eq_some_iff.1 hj).1; simp at this; exact this)); (rw [← hj]; exact HC1.out)⟩) (by show 0 + 1 ≤ cur.length; omega) (fun v hv => by (rw [List.mem_singleton.1 hv]; rfl)) w.heap.size w HB1.out (Nat.le_refl _) ?_; intro w2 hg2 hb2))
  have HL2 : Hid (n ≤ (splice cur 0 [Value.float FloatKind.f32 x]).length) := Lib.hid (by rw [length_splice _ _ _ (by show 0 + 1 ≤ cur.length; omega)]; exact hl1)
  have HV2 : Hid (∀ i, i < 1 → (splice cur 0 [Value.float FloatKind.f32 x])[i]? = some (.float .f32 x)) := Lib.hid (fun i hi => by
    obtain rfl : i = 0 := by omega
    rfl)
  have HB2 := Lib.hid hb2; clear hb2 HB1 HG1 HC1
  generalize splice cur 0 [Value.float FloatKind.f32 x] = cur0 at *
  go_loopw [8] (fun kv wr => ∃ (k : Nat) (cu : List Value), 1 ≤ k ∧ k ≤ n ∧ kv = .int .i64 k ∧ n ≤ cu.length ∧ Blk wr w.heap.size cu.toArray 40 ∧ (∀ i, i < k → cu[i]? = some (.float .f32 x)) ∧ Below w.heap.size w wr) (fun kv _ => n - (intOf kv).toNat)
  case atStart => exact ⟨1, cur0, Nat.le_refl _, hn, rfl, HL2.out, hg2.out, HV2.out, HB2.out⟩
  case round =>
    clear hg2 HV2 HL2 HB2
    obtain ⟨k, cu, hk1, hk, rfl, hl, hG, hV, hB⟩ := hrel
    have HL := Lib.hid hl; have HG := Lib.hid hG; have HV := Lib.hid hV; have HB := Lib.hid hB
    clear hl hG hV hB
    by_cases hlt : k < n
    · have hki : ((k : Nat) : Int) < (n : Int) := by omega
      have hm : ∃ m, m = min k (n - k) := ⟨_, rfl⟩
      obtain ⟨m, hm⟩ := hm
      have m1 : 1 ≤ m ∧ k + m ≤ n ∧ m ≤ k := by omega
      obtain ⟨m1, m2, m3⟩ := m1
      have HM := Lib.hid hm; clear hm
      have E1 : Hid (IntKind.i64.wrap ((k : Int) + (m : Int)) = ((k + m : Nat) : Int)) := Lib.hid (by rw [IntKind.wrap_i64]; omega)
      have HC : Hid (∀ j v, (List.replicate m (Value.float .f32 x))[j]? = some v → wr.cell? ((⟨w.heap.size, 0, none⟩ : Addr).add j) = some v) := Lib.hid (fun j v hj => by
        have h1 := (List.getElem?_eq_some_iff.1 hj).1
        rw [List.length_replicate] at h1
        have h2 : v = .float .f32 x := by rw [List.getElem?_replicate, if_pos h1] at hj; injection hj with hj; exact hj.symm
        have h4 : ((⟨w.heap.size, 0, none⟩ : Addr).add j) = ⟨w.heap.size, 0 + j, none⟩ := by unfold Addr.add; split <;> simp_all
        rw [h4]
        have h3 := HG.out.open.1 (0 + j)
        refine h3.trans ?_
        rw [h2, Nat.zero_add, List.getElem?_toArray]
        exact HV.out j (by omega))
      go_upto_region 9 with (fail)
      refine wp_region_held_drew (S := fun _ => True) (by kernel_rfl) trivial (fun hH => ?_)
      replace HC : Hid (∀ j v, (List.replicate m (Value.float .f32 x))[j]? = some v → wr.drew.cell? ((⟨w.heap.size, 0, none⟩ : Addr).add j) = some v) := HC
      replace HG : Hid (Blk wr.drew w.heap.size cu.toArray 40) := HG
      replace HB : Hid (Below w.heap.size w wr.drew) := Lib.hid HB.out.drew
      generalize wr.drew = N0 at *
      refine wpAnyH_take (i := 0) (v := ?_) rfl (by kernel_rfl) (by kernel_rfl) (by kernel_rfl) (fun _ _ _ h => h) (Or.inl ⟨by rfl, ?_⟩) hH ?_
      rotate_left
      · intro w9 hSw; go_simp; try with_reducible rfl
      try simp only [Act.put, List.getElem_toArray, List.getElem_cons_succ, List.getElem_cons_zero, List.setIfInBounds_toArray, List.set_cons_zero, List.set_cons_succ]
      refine wpAnyH_take (i := 1) (v := ?_) rfl (by kernel_rfl) (by kernel_rfl) (by kernel_rfl) (fun _ _ _ h => h) (Or.inl ⟨by rfl, ?_⟩) hH ?_
      rotate_left
      · intro w9 hSw; go_simp; try with_reducible rfl
      try simp only [Act.put, List.getElem_toArray, List.getElem_cons_succ, List.getElem_cons_zero, List.setIfInBounds_toArray, List.set_cons_zero, List.set_cons_succ]
      refine wpAnyH_take (i := 2) (v := ?_) rfl (by kernel_rfl) (by kernel_rfl) (by kernel_rfl) (fun _ _ _ h => h) (Or.inl ⟨by rfl, ?_⟩) hH ?_
      rotate_left
      · intro w9 hSw; go_simp; try with_reducible rfl
      try simp only [Act.put, List.getElem_toArray, List.getElem_cons_succ, List.getElem_cons_zero, List.setIfInBounds_toArray, List.set_cons_zero, List.set_cons_succ]
      refine wpAnyH_take (i := 3) (v := ?_) rfl (by kernel_rfl) (by kernel_rfl) (by kernel_rfl) (fun _ _ _ h => h) (Or.inl ⟨by rfl, ?_⟩) hH ?_
      rotate_left
      · intro w9 hSw; go_simp; try with_reducible rfl
      try simp only [Act.put, List.getElem_toArray, List.getElem_cons_succ, List.getElem_cons_zero, List.setIfInBounds_toArray, List.set_cons_zero, List.set_cons_succ]
      refine wpAnyH_take (i := 4) (v := ?_) rfl (by kernel_rfl) (by kernel_rfl) (by kernel_rfl) (fun _ _ _ h => h) (Or.inl ⟨by rfl, ?_⟩) hH ?_
      rotate_left
      · intro w9 hSw; go_simp; try with_reducible rfl
      try simp only [Act.put, List.getElem_toArray, List.getElem_cons_succ, List.getElem_cons_zero, List.setIfInBounds_toArray, List.set_cons_zero, List.set_cons_succ]
      refine wpAnyH_take (i := 5) (v := ?_) rfl (by kernel_rfl) (by kernel_rfl) (by kernel_rfl) (fun _ _ _ h => h) (Or.inl ⟨by rfl, ?_⟩) hH ?_
      rotate_left
      · intro w9 hSw; go_simp; try with_reducible rfl
      try simp only [Act.put, List.getElem_toArray, List.getElem_cons_succ, List.getElem_cons_zero, List.setIfInBounds_toArray, List.set_cons_zero, List.set_cons_succ]
      refine wpAnyH_take (i := 6) (v := ?_) rfl (by kernel_rfl) (by kernel_rfl) (by kernel_rfl) (fun _ _ _ h => h) (Or.inl ⟨by rfl, ?_⟩) hH ?_
      rotate_left
      · intro w9 hSw; go_simp; try with_reducible rfl
      try simp only [Act.put, List.getElem_toArray, List.getElem_cons_succ, List.getElem_cons_zero, List.setIfInBounds_toArray, List.set_cons_zero, List.set_cons_succ]
      refine wpAnyH_ready (rs := [7]) (by kernel_rfl) (by simp) ?_
      refine AllReadyH.cons (o := _) rfl (fun K hK => ?_) AllReadyH.nil
      refine wp_copy_splice rfl (.tmp 41) (.tmp 44) 22 22 rfl 40 Try.underlying22 HSZ.out _ _ _ _ _ _ rfl rfl w.heap.size k cu 40 HG.out (List.replicate m (Value.float .f32 x)) ?l1 (fun _ => ⟨if_neg (by omega), _, rfl, HC.out⟩) ?l2 (fun v hv => by (rw [(List.mem_replicate.1 hv).2]; rfl)) w.heap.size w HB.out (Nat.le_refl _) ?_
      case l1 => rw [List.length_replicate, HM.out]
      case l2 => rw [List.length_replicate]; have := HL.out; omega
      intro w4 hg4 hb4
      refine hK.out _ _ trivial (fun hH2 => ?_)
      clear hK K HC HG HB; have HB := Lib.hid hb4; clear hb4
      try simp only [Act.put, List.getElem_toArray, List.getElem_cons_succ, List.getElem_cons_zero, List.setIfInBounds_toArray, List.set_cons_zero, List.set_cons_succ]
      refine wpAnyH_ready (rs := [8]) (by kernel_rfl) (by simp) ?_
      refine AllReadyH.cons (o := _) rfl (fun K hK => ?_) AllReadyH.nil
      go_simp
      refine hK.out _ _ trivial (fun hH2 => ?_)
      clear hK K
      try simp only [Act.put, List.getElem_toArray, List.getElem_cons_succ, List.getElem_cons_zero, List.setIfInBounds_toArray, List.set_cons_zero, List.set_cons_succ]
      refine wpAnyH_ready (rs := [9]) (by kernel_rfl) (by simp) ?_
      refine AllReadyH.cons (o := _) rfl (fun K hK => ?_) AllReadyH.nil
      go_simp
      refine hK.out _ _ trivial (fun hH2 => ?_)
      clear hK K
      try simp only [Act.put, List.getElem_toArray, List.getElem_cons_succ, List.getElem_cons_zero, List.setIfInBounds_toArray, List.set_cons_zero, List.set_cons_succ]
      refine wpAnyH_done (by kernel_rfl) ?_ _
      go_wp2
      go_roundw
      case rel => exact ⟨k + m, splice cu k (List.replicate m (Value.float .f32 x)), by omega, by omega, congrArg (Value.int .i64) E1.out, by (rw [length_splice _ _ _ (by (rw [List.length_replicate]; have := HL.out; omega))]; exact HL.out), hg4.out, fun i hi => splice_val (by (rw [List.length_replicate]; have := HL.out; omega)) HV.out (fun i h => by (rw [List.length_replicate] at h; rw [List.getElem?_replicate, if_pos h])) i (by (rw [List.length_replicate]; exact hi)), HB.out⟩
      case measure =>
        have e1 := E1.out
        simp only [intOf, List.length_replicate, e1, Int.toNat_natCast]; omega
    · obtain rfl : k = n := by omega
      go_wp2
      go_ret
      refine ⟨_, rfl, ?_, HB.out⟩
      refine .inr ⟨_, _, _, rfl, Nat.le_refl _, HG.out, fun i u hu => ?_⟩
      unfold fvals at hu
      rw [List.map_replicate] at hu
      have h1 := (List.getElem?_eq_some_iff.1 hu).1
      rw [List.length_replicate] at h1
      rw [List.getElem?_replicate, if_pos h1] at hu
      rw [List.getElem?_toArray, ← hu]
      exact HV.out i h1

end Go.Proofs.Ytkcododhfliobab
