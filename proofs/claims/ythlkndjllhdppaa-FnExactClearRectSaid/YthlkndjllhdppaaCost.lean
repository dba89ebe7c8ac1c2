/- How many products a step needs: the program's answer and the model's. Conditions: none beyond those of each theorem. -/
import Derived.Test.YthlkndjllhdppaaBu7
import Derived.Test.YthlkndjllhdppaaBu14
import Derived.Test.YthlkndjllhdppaaBu17
namespace Go.Proofs.Ythlkndjllhdppaa
open Go Ieee Go.RowKit
set_option linter.unusedVariables false

/-- 2 for each of the first m cells that is not left as it is -/
def cnt (p : Int → Int → Bool) (wd : Int) : Nat → Int
  | 0 => 0
  | m + 1 => cnt p wd m + (if p ((m : Int) % wd) ((m : Int) / wd) then 0 else 2)

theorem cnt_in (p : Int → Int → Bool) (wd : Int) : ∀ m : Nat, 0 ≤ cnt p wd m ∧ cnt p wd m ≤ 2 * m
  | 0 => by unfold cnt; omega
  | m + 1 => by
    have := cnt_in p wd m
    unfold cnt
    split <;> omega

theorem cnt_yes {p : Int → Int → Bool} {wd : Int} {m : Nat} (h : p ((m : Int) % wd) ((m : Int) / wd) = true) : cnt p wd (m + 1) = cnt p wd m := by
  rw [cnt, h]; simp
theorem cnt_no {p : Int → Int → Bool} {wd : Int} {m : Nat} (h : p ((m : Int) % wd) ((m : Int) / wd) = false) : cnt p wd (m + 1) = cnt p wd m + 2 := by
  rw [cnt, h]; simp

def costI (wd hi : Int) (wb : Bool) : Int := if wb then 6 * wd * hi else 2 * wd * (hi - 1) + 2 * (wd - 1) * hi + 2 * (wd - 2) * (hi - 2)

theorem cost_all : ∀ a ∈ List.range 17, ∀ b ∈ List.range 17, ∀ wb : Bool, 3 ≤ a → 3 ≤ b → cnt (fun _ y => belowB wb (b : Int) y) (a : Int) (a * b) + cnt (fun x _ => besideB wb (a : Int) x) (a : Int) (a * b) + cnt (bordB wb (a : Int) (b : Int)) (a : Int) (a * b) = costI (a : Int) (b : Int) wb := by
  decide +kernel

theorem cost_eq {wd hi : Int} {n : Nat} (wb : Bool) (s1 : 3 ≤ wd) (s2 : wd ≤ 16) (s3 : 3 ≤ hi) (s4 : hi ≤ 16) (hn : wd * hi = n) : cnt (fun _ y => belowB wb hi y) wd n + cnt (fun x _ => besideB wb wd x) wd n + cnt (bordB wb wd hi) wd n = costI wd hi wb := by
  obtain ⟨a, rfl⟩ := Int.eq_ofNat_of_zero_le (show 0 ≤ wd by omega)
  obtain ⟨b, rfl⟩ := Int.eq_ofNat_of_zero_le (show 0 ≤ hi by omega)
  obtain rfl : n = a * b := by
    rw [← Int.natCast_mul] at hn; omega
  exact cost_all a (List.mem_range.2 (by omega)) b (List.mem_range.2 (by omega)) wb (by omega) (by omega)

/-- what two calls of a region answer -/
def SpTwo (f1 : FuncId) (V1 V2 : Value) (f : FuncId) (_ : Array Value) (v : Value) : Prop := v = if f == f1 then V1 else V2

set_option maxHeartbeats 8000000 in
set_option maxRecDepth 100000 in
theorem implSheetCostL (wd hi : Int) (wb : Bool) (a b : Option Addr) (ca cb : Nat) (xs ys : List Nat) (w : World) (ha : RowV w a (fvals xs)) (hb : RowV w b (fvals ys)) (qa : ∀ z ∈ xs, z < 2 ^ 32) (qb : ∀ z ∈ ys, z < 2 ^ 32) (hx : xs.length ≤ maxLen) (hy : ys.length ≤ maxLen) :
    Calls Try.prog 54 #[.agg #[.int .i64 wd, .int .i64 hi, .bool wb, .slice a xs.length ca, .slice b ys.length cb]] w fun e w' => e = .returned (.tuple #[.int .i64 (ifI (validB wd hi xs ys) (costI wd hi wb)), .bool (validB wd hi xs ys)]) ∧ Below w.heap.size w w' := by
  rcases hv : validB wd hi xs ys with _ | _
  · skip
    have H_v := Lib.hid hv; clear hv
    have X := Blk.new w #[.int .i64 wd, .int .i64 hi, .bool wb, .slice a xs.length ca, .slice b ys.length cb] 29
    have HB : Hid (Below w.heap.size w (w.alloc (.cells #[.int .i64 wd, .int .i64 hi, .bool wb, .slice a xs.length ca, .slice b ys.length cb] 29))) := Lib.hid ((Below.refl w.heap.size w).alloc (by simp <;> omega) _)
    go_enter Try.func54, Try.ntmps54
    go_wp2_with fail
    generalize (w.alloc (.cells #[.int .i64 wd, .int .i64 hi, .bool wb, .slice a xs.length ca, .slice b ys.length cb] 29)) = u1 at *
    obtain ⟨Xc, Xf⟩ := X.open
    refine (implValidSheet _ _ _ _ _ _ _ _ _ _ (ha.later HB.out) (hb.later HB.out) hx hy).mono ?_
    rintro r u2 ⟨rfl, q⟩
    clear Xc Xf
    replace X := X.later q
    replace HB := Lib.hid (HB.out.trans (q.mono HB.out.size))
    clear q
    rw [H_v.out]
    go_wp2
    go_ret2
    exact ⟨rfl, HB.out⟩
  obtain ⟨s1, s2, s3, s4, hm2, lx, ly⟩ := valid_parts hv
  obtain ⟨n, hn⟩ := Int.eq_ofNat_of_zero_le (show 0 ≤ wd * hi by omega)
  have n256 : n ≤ 256 := by omega
  have HCE := Lib.hid (cost_eq wb s1 s2 s3 s4 hn)
  have B0 := cnt_in (fun _ y => belowB wb hi y) wd n
  have B1 := cnt_in (fun x _ => besideB wb wd x) wd n
  have B2 := cnt_in (bordB wb wd hi) wd n
  have CO : Hid (∀ u, Calls Try.prog 65 #[.agg #[.int .i64 wd, .int .i64 hi, .bool wb]] u fun e w' => e = .returned (.int .i64 (n : Int)) ∧ Below u.heap.size u w') := Lib.hid (fun u => by have := implCount wd hi wb u (by omega) (by omega); rw [hn] at this; exact this)
  have H_v := Lib.hid hv; clear hv lx ly hn
  generalize hc0 : cnt (fun _ y => belowB wb hi y) wd n = t0 at *
  have HC0 := Lib.hid hc0; clear hc0
  generalize hc1 : cnt (fun x _ => besideB wb wd x) wd n = t1 at *
  have HC1 := Lib.hid hc1; clear hc1
  generalize hc2 : cnt (bordB wb wd hi) wd n = t2 at *
  have HC2 := Lib.hid hc2; clear hc2
  have X := Blk.new w #[.int .i64 wd, .int .i64 hi, .bool wb, .slice a xs.length ca, .slice b ys.length cb] 29
  have HB : Hid (Below w.heap.size w (w.alloc (.cells #[.int .i64 wd, .int .i64 hi, .bool wb, .slice a xs.length ca, .slice b ys.length cb] 29))) := Lib.hid ((Below.refl w.heap.size w).alloc (by simp <;> omega) _)
  go_enter Try.func54, Try.ntmps54
  go_wp2_with fail
  generalize (w.alloc (.cells #[.int .i64 wd, .int .i64 hi, .bool wb, .slice a xs.length ca, .slice b ys.length cb] 29)) = u1 at *
  obtain ⟨Xc, Xf⟩ := X.open
  refine (implValidSheet _ _ _ _ _ _ _ _ _ _ (ha.later HB.out) (hb.later HB.out) hx hy).mono ?_
  rintro r u2 ⟨rfl, q⟩
  clear Xc Xf
  replace X := X.later q
  replace HB := Lib.hid (HB.out.trans (q.mono HB.out.size))
  clear q
  rw [H_v.out]
  obtain ⟨Xc, Xf⟩ := X.open
  go_wp2_with fail
  refine (implShapeOf _ _ _ _ _ _ _ _ _ _).mono ?_
  rintro r u3 ⟨rfl, q⟩
  clear Xc Xf
  replace X := X.later q
  replace HB := Lib.hid (HB.out.trans (q.mono HB.out.size))
  clear q
  have HS := Blk.new u3 #[.int .i64 wd, .int .i64 hi, .bool wb] 82
  have q := below_new u3 (.cells #[.int .i64 wd, .int .i64 hi, .bool wb] 82)
  replace X := X.later q
  replace HB := Lib.hid (HB.out.trans (q.mono HB.out.size))
  clear q
  go_upto_region 5 with (fail)
  obtain ⟨gh, hgh⟩ : ∃ gh, gh = u3.heap.size := ⟨_, rfl⟩
  rw [← hgh] at HS
  (try simp only [← hgh])
  generalize u3.alloc (.cells #[.int .i64 wd, .int .i64 hi, .bool wb] 82) = u9 at *
  clear hgh
  go_wp2
  go_loopw [15, 5] (fun jv cv wr => ∃ c : Int, cv = .int .i64 c ∧ ((jv = .int .i64 0 ∧ c = 0) ∨ (jv = .int .i64 1 ∧ c = t0) ∨ (jv = .int .i64 2 ∧ c = t0 + t1) ∨ (jv = .int .i64 3 ∧ c = t0 + t1 + t2)) ∧ Blk wr gh #[.int .i64 wd, .int .i64 hi, .bool wb] 82 ∧ Below w.heap.size w wr) (fun jv _ _ => 3 - (intOf jv).toNat)
  case atStart => exact ⟨0, rfl, .inl ⟨rfl, rfl⟩, HS, HB.out⟩
  case round =>
    obtain ⟨c, rfl, hj, HS, hb⟩ := hrel
    replace HB := Lib.hid hb; clear hb X
    obtain ⟨wo, hwo⟩ : ∃ wo : World, wo = wr := ⟨_, rfl⟩
    subst hwo
    rcases hj with hj | hj | hj | hj
    · skip
      obtain ⟨rfl, hct⟩ := hj; replace hct := hct.symm; subst hct
      obtain ⟨HSc, HSf⟩ := HS.open
      have hix : ∀ w, (Instr.index 125 (.agg #[.func (.func 110) #[] #[], .func (.func 111) #[] #[], .func (.func 112) #[] #[]]) (.int .i64 0)).run Try.prog w = .ok (.func (.func 110) #[] #[]) w := fun w => by kernel_rfl
      go_wp2_with fail
      refine (CO.out _).mono ?_
      rintro r u1 ⟨rfl, q⟩
      replace HS := HS.later q; replace HB := Lib.hid (HB.out.trans (q.mono HB.out.size)); clear q HSc HSf
      go_wp2
      go_loopw [20, 5] (fun iv cv wr => ∃ i : Nat, i ≤ n ∧ iv = .int .i64 i ∧ cv = .int .i64 (0 + cnt (fun _ y => belowB wb hi y) wd i) ∧ Blk wr gh #[.int .i64 wd, .int .i64 hi, .bool wb] 82 ∧ Below w.heap.size w wr) (fun iv _ _ => n - (intOf iv).toNat)
      case atStart => exact ⟨0, Nat.zero_le _, rfl, by rw [cnt]; simp, HS, HB.out⟩
      case round =>
        obtain ⟨i, hle, rfl, rfl, HS, hb⟩ := hrel
        replace HB := Lib.hid hb; clear hb
        have bi := cnt_in (fun _ y => belowB wb hi y) wd i
        by_cases hlt : i < n
        · skip
          have ilt : (i : Int) < (n : Int) := by omega
          rcases hp : (fun _ y => belowB wb hi y) ((i : Int) % wd) ((i : Int) / wd) with _ | _
          · skip
            have HP : Hid ((fun _ y => belowB wb hi y) ((i : Int) % wd) ((i : Int) / wd) = false) := Lib.hid hp
            have HN := Lib.hid (cnt_no (p := (fun _ y => belowB wb hi y)) (wd := wd) (m := i) hp); clear hp
            generalize cnt (fun _ y => belowB wb hi y) wd i = ci at *
            obtain ⟨u2, hu2⟩ : ∃ u2 : World, u2 = wr := ⟨_, rfl⟩
            go_wp2_with fail
            refine wp_region_relC (Grows wr) (SpTwo 113 (.agg #[.int .i64 ((i : Int) % wd), .int .i64 ((i : Int) / wd)]) (.bool false)) (by kernel_rfl) (by kernel_rfl) (Grows.drew _) ?_
            (refine wpRel_plain rfl rfl ?_; intro K hK; go_big_quiet_op; (first | go_big_quiet_on | (refine ⟨_, fun _ _ => rfl, ?_⟩; go_big_quiet_on)))
            (refine wpRel_load rfl _ rfl (_) (fun w' hw' => run_loadVar_row w' _ _ _ _ _ _ (HS.later hw') Try.underlying82 rfl (by kernel_rfl)) ?_; simp only [Act.put, List.setIfInBounds_toArray, List.set_cons_zero, List.set_cons_succ])
            (refine wpRel_load rfl _ rfl (_) (fun w' hw' => run_loadVar_row w' _ _ _ _ _ _ (HS.later hw') Try.underlying82 rfl (by kernel_rfl)) ?_; simp only [Act.put, List.setIfInBounds_toArray, List.set_cons_zero, List.set_cons_succ])
            (refine wpRel_plain rfl rfl ?_; intro K hK; go_big_quiet_op; (first | go_big_quiet_on | (refine ⟨_, fun _ _ => rfl, ?_⟩; go_big_quiet_on)))
            (refine wpRel_callC rfl 113 _ rfl Try.func113 (by kernel_rfl) (by kernel_rfl) [.agg #[.int .i64 wd, .int .i64 hi, .bool wb], .int .i64 (i : Int)] rfl (fun w' hw' => (implCellAt wd hi (i : Int) wb w' s1 s2 (by omega) (by omega)).mono (by rintro e w'' ⟨rfl, q9⟩; exact ⟨_, rfl, rfl, hw'.next q9⟩)) ?_; intro v hv; replace hv : v = .agg #[.int .i64 ((i : Int) % wd), .int .i64 ((i : Int) / wd)] := hv; subst hv; simp only [Act.put, List.setIfInBounds_toArray, List.set_cons_zero, List.set_cons_succ])
            (refine wpRel_callC rfl 110 _ rfl Try.func110 (by kernel_rfl) (by kernel_rfl) [.agg #[.int .i64 wd, .int .i64 hi, .bool wb], .agg #[.int .i64 ((i : Int) % wd), .int .i64 ((i : Int) / wd)]] rfl (fun w' hw' => (implBelow wd hi ((i : Int) % wd) ((i : Int) / wd) wb w' s3 s4).mono (by rintro e w'' ⟨rfl, q9⟩; exact ⟨_, rfl, congrArg Value.bool HP.out, hw'.next q9⟩)) ?_; intro v hv; replace hv : v = .bool false := hv; subst hv; simp only [Act.put, List.setIfInBounds_toArray, List.set_cons_zero, List.set_cons_succ])
            (refine wpRel_plain rfl rfl ?_; intro K hK; go_big_quiet_op; (first | go_big_quiet_on | (refine ⟨_, fun _ _ => rfl, ?_⟩; go_big_quiet_on)))
            refine wpRel_nil ?_
            intro u3 hw'
            replace hw' : Below wr.heap.size wr u3 := hw'
            replace HS := HS.later hw'; replace HB := Lib.hid (HB.out.trans (hw'.mono HB.out.size)); clear hw' hu2 u2
            go_wp2
            go_roundw
            case rel => exact ⟨i + 1, by omega, by go_num, (by (rw [HN.out]) <;> (first | rfl | (go_num; done) | (simp [Int.add_assoc]; done))), HS, HB.out⟩
            case measure => simp [intOf]; omega
          · skip
            have HP : Hid ((fun _ y => belowB wb hi y) ((i : Int) % wd) ((i : Int) / wd) = true) := Lib.hid hp
            have HN := Lib.hid (cnt_yes (p := (fun _ y => belowB wb hi y)) (wd := wd) (m := i) hp); clear hp
            generalize cnt (fun _ y => belowB wb hi y) wd i = ci at *
            obtain ⟨u2, hu2⟩ : ∃ u2 : World, u2 = wr := ⟨_, rfl⟩
            go_wp2_with fail
            refine wp_region_relC (Grows wr) (SpTwo 113 (.agg #[.int .i64 ((i : Int) % wd), .int .i64 ((i : Int) / wd)]) (.bool true)) (by kernel_rfl) (by kernel_rfl) (Grows.drew _) ?_
            (refine wpRel_plain rfl rfl ?_; intro K hK; go_big_quiet_op; (first | go_big_quiet_on | (refine ⟨_, fun _ _ => rfl, ?_⟩; go_big_quiet_on)))
            (refine wpRel_load rfl _ rfl (_) (fun w' hw' => run_loadVar_row w' _ _ _ _ _ _ (HS.later hw') Try.underlying82 rfl (by kernel_rfl)) ?_; simp only [Act.put, List.setIfInBounds_toArray, List.set_cons_zero, List.set_cons_succ])
            (refine wpRel_load rfl _ rfl (_) (fun w' hw' => run_loadVar_row w' _ _ _ _ _ _ (HS.later hw') Try.underlying82 rfl (by kernel_rfl)) ?_; simp only [Act.put, List.setIfInBounds_toArray, List.set_cons_zero, List.set_cons_succ])
            (refine wpRel_plain rfl rfl ?_; intro K hK; go_big_quiet_op; (first | go_big_quiet_on | (refine ⟨_, fun _ _ => rfl, ?_⟩; go_big_quiet_on)))
            (refine wpRel_callC rfl 113 _ rfl Try.func113 (by kernel_rfl) (by kernel_rfl) [.agg #[.int .i64 wd, .int .i64 hi, .bool wb], .int .i64 (i : Int)] rfl (fun w' hw' => (implCellAt wd hi (i : Int) wb w' s1 s2 (by omega) (by omega)).mono (by rintro e w'' ⟨rfl, q9⟩; exact ⟨_, rfl, rfl, hw'.next q9⟩)) ?_; intro v hv; replace hv : v = .agg #[.int .i64 ((i : Int) % wd), .int .i64 ((i : Int) / wd)] := hv; subst hv; simp only [Act.put, List.setIfInBounds_toArray, List.set_cons_zero, List.set_cons_succ])
            (refine wpRel_callC rfl 110 _ rfl Try.func110 (by kernel_rfl) (by kernel_rfl) [.agg #[.int .i64 wd, .int .i64 hi, .bool wb], .agg #[.int .i64 ((i : Int) % wd), .int .i64 ((i : Int) / wd)]] rfl (fun w' hw' => (implBelow wd hi ((i : Int) % wd) ((i : Int) / wd) wb w' s3 s4).mono (by rintro e w'' ⟨rfl, q9⟩; exact ⟨_, rfl, congrArg Value.bool HP.out, hw'.next q9⟩)) ?_; intro v hv; replace hv : v = .bool true := hv; subst hv; simp only [Act.put, List.setIfInBounds_toArray, List.set_cons_zero, List.set_cons_succ])
            (refine wpRel_plain rfl rfl ?_; intro K hK; go_big_quiet_op; (first | go_big_quiet_on | (refine ⟨_, fun _ _ => rfl, ?_⟩; go_big_quiet_on)))
            refine wpRel_nil ?_
            intro u3 hw'
            replace hw' : Below wr.heap.size wr u3 := hw'
            replace HS := HS.later hw'; replace HB := Lib.hid (HB.out.trans (hw'.mono HB.out.size)); clear hw' hu2 u2
            go_wp2
            go_roundw
            case rel => exact ⟨i + 1, by omega, by go_num, (by (rw [HN.out]) <;> (first | rfl | (go_num; done) | (simp [Int.add_assoc]; done))), HS, HB.out⟩
            case measure => simp [intOf]; omega
        · skip
          obtain rfl : i = n := by omega
          rw [HC0.out]
          go_wp2
          go_roundw
          case rel => exact ⟨_, rfl, .inr (.inl ⟨rfl, by omega⟩), HS, HB.out⟩
          case measure => simp [intOf]
    · skip
      obtain ⟨rfl, hct⟩ := hj; replace hct := hct.symm; subst hct
      obtain ⟨HSc, HSf⟩ := HS.open
      have hix : ∀ w, (Instr.index 125 (.agg #[.func (.func 110) #[] #[], .func (.func 111) #[] #[], .func (.func 112) #[] #[]]) (.int .i64 1)).run Try.prog w = .ok (.func (.func 111) #[] #[]) w := fun w => by kernel_rfl
      go_wp2_with fail
      refine (CO.out _).mono ?_
      rintro r u1 ⟨rfl, q⟩
      replace HS := HS.later q; replace HB := Lib.hid (HB.out.trans (q.mono HB.out.size)); clear q HSc HSf
      go_wp2
      go_loopw [20, 5] (fun iv cv wr => ∃ i : Nat, i ≤ n ∧ iv = .int .i64 i ∧ cv = .int .i64 (t0 + cnt (fun x _ => besideB wb wd x) wd i) ∧ Blk wr gh #[.int .i64 wd, .int .i64 hi, .bool wb] 82 ∧ Below w.heap.size w wr) (fun iv _ _ => n - (intOf iv).toNat)
      case atStart => exact ⟨0, Nat.zero_le _, rfl, by rw [cnt]; simp, HS, HB.out⟩
      case round =>
        obtain ⟨i, hle, rfl, rfl, HS, hb⟩ := hrel
        replace HB := Lib.hid hb; clear hb
        have bi := cnt_in (fun x _ => besideB wb wd x) wd i
        by_cases hlt : i < n
        · skip
          have ilt : (i : Int) < (n : Int) := by omega
          rcases hp : (fun x _ => besideB wb wd x) ((i : Int) % wd) ((i : Int) / wd) with _ | _
          · skip
            have HP : Hid ((fun x _ => besideB wb wd x) ((i : Int) % wd) ((i : Int) / wd) = false) := Lib.hid hp
            have HN := Lib.hid (cnt_no (p := (fun x _ => besideB wb wd x)) (wd := wd) (m := i) hp); clear hp
            generalize cnt (fun x _ => besideB wb wd x) wd i = ci at *
            obtain ⟨u2, hu2⟩ : ∃ u2 : World, u2 = wr := ⟨_, rfl⟩
            go_wp2_with fail
            refine wp_region_relC (Grows wr) (SpTwo 113 (.agg #[.int .i64 ((i : Int) % wd), .int .i64 ((i : Int) / wd)]) (.bool false)) (by kernel_rfl) (by kernel_rfl) (Grows.drew _) ?_
            (refine wpRel_plain rfl rfl ?_; intro K hK; go_big_quiet_op; (first | go_big_quiet_on | (refine ⟨_, fun _ _ => rfl, ?_⟩; go_big_quiet_on)))
            (refine wpRel_load rfl _ rfl (_) (fun w' hw' => run_loadVar_row w' _ _ _ _ _ _ (HS.later hw') Try.underlying82 rfl (by kernel_rfl)) ?_; simp only [Act.put, List.setIfInBounds_toArray, List.set_cons_zero, List.set_cons_succ])
            (refine wpRel_load rfl _ rfl (_) (fun w' hw' => run_loadVar_row w' _ _ _ _ _ _ (HS.later hw') Try.underlying82 rfl (by kernel_rfl)) ?_; simp only [Act.put, List.setIfInBounds_toArray, List.set_cons_zero, List.set_cons_succ])
            (refine wpRel_plain rfl rfl ?_; intro K hK; go_big_quiet_op; (first | go_big_quiet_on | (refine ⟨_, fun _ _ => rfl, ?_⟩; go_big_quiet_on)))
            (refine wpRel_callC rfl 113 _ rfl Try.func113 (by kernel_rfl) (by kernel_rfl) [.agg #[.int .i64 wd, .int .i64 hi, .bool wb], .int .i64 (i : Int)] rfl (fun w' hw' => (implCellAt wd hi (i : Int) wb w' s1 s2 (by omega) (by omega)).mono (by rintro e w'' ⟨rfl, q9⟩; exact ⟨_, rfl, rfl, hw'.next q9⟩)) ?_; intro v hv; replace hv : v = .agg #[.int .i64 ((i : Int) % wd), .int .i64 ((i : Int) / wd)] := hv; subst hv; simp only [Act.put, List.setIfInBounds_toArray, List.set_cons_zero, List.set_cons_succ])
            (refine wpRel_callC rfl 111 _ rfl Try.func111 (by kernel_rfl) (by kernel_rfl) [.agg #[.int .i64 wd, .int .i64 hi, .bool wb], .agg #[.int .i64 ((i : Int) % wd), .int .i64 ((i : Int) / wd)]] rfl (fun w' hw' => (implBeside wd hi ((i : Int) % wd) ((i : Int) / wd) wb w' s1 s2).mono (by rintro e w'' ⟨rfl, q9⟩; exact ⟨_, rfl, congrArg Value.bool HP.out, hw'.next q9⟩)) ?_; intro v hv; replace hv : v = .bool false := hv; subst hv; simp only [Act.put, List.setIfInBounds_toArray, List.set_cons_zero, List.set_cons_succ])
            (refine wpRel_plain rfl rfl ?_; intro K hK; go_big_quiet_op; (first | go_big_quiet_on | (refine ⟨_, fun _ _ => rfl, ?_⟩; go_big_quiet_on)))
            refine wpRel_nil ?_
            intro u3 hw'
            replace hw' : Below wr.heap.size wr u3 := hw'
            replace HS := HS.later hw'; replace HB := Lib.hid (HB.out.trans (hw'.mono HB.out.size)); clear hw' hu2 u2
            go_wp2
            go_roundw
            case rel => exact ⟨i + 1, by omega, by go_num, (by (rw [HN.out]) <;> (first | rfl | (go_num; done) | (simp [Int.add_assoc]; done))), HS, HB.out⟩
            case measure => simp [intOf]; omega
          · skip
            have HP : Hid ((fun x _ => besideB wb wd x) ((i : Int) % wd) ((i : Int) / wd) = true) := Lib.hid hp
            have HN := Lib.hid (cnt_yes (p := (fun x _ => besideB wb wd x)) (wd := wd) (m := i) hp); clear hp
            generalize cnt (fun x _ => besideB wb wd x) wd i = ci at *
            obtain ⟨u2, hu2⟩ : ∃ u2 : World, u2 = wr := ⟨_, rfl⟩
            go_wp2_with fail
            refine wp_region_relC (Grows wr) (SpTwo 113 (.agg #[.int .i64 ((i : Int) % wd), .int .i64 ((i : Int) / wd)]) (.bool true)) (by kernel_rfl) (by kernel_rfl) (Grows.drew _) ?_
            (refine wpRel_plain rfl rfl ?_; intro K hK; go_big_quiet_op; (first | go_big_quiet_on | (refine ⟨_, fun _ _ => rfl, ?_⟩; go_big_quiet_on)))
            (refine wpRel_load rfl _ rfl (_) (fun w' hw' => run_loadVar_row w' _ _ _ _ _ _ (HS.later hw') Try.underlying82 rfl (by kernel_rfl)) ?_; simp only [Act.put, List.setIfInBounds_toArray, List.set_cons_zero, List.set_cons_succ])
            (refine wpRel_load rfl _ rfl (_) (fun w' hw' => run_loadVar_row w' _ _ _ _ _ _ (HS.later hw') Try.underlying82 rfl (by kernel_rfl)) ?_; simp only [Act.put, List.setIfInBounds_toArray, List.set_cons_zero, List.set_cons_succ])
            (refine wpRel_plain rfl rfl ?_; intro K hK; go_big_quiet_op; (first | go_big_quiet_on | (refine ⟨_, fun _ _ => rfl, ?_⟩; go_big_quiet_on)))
            (refine wpRel_callC rfl 113 _ rfl Try.func113 (by kernel_rfl) (by kernel_rfl) [.agg #[.int .i64 wd, .int .i64 hi, .bool wb], .int .i64 (i : Int)] rfl (fun w' hw' => (implCellAt wd hi (i : Int) wb w' s1 s2 (by omega) (by omega)).mono (by rintro e w'' ⟨rfl, q9⟩; exact ⟨_, rfl, rfl, hw'.next q9⟩)) ?_; intro v hv; replace hv : v = .agg #[.int .i64 ((i : Int) % wd), .int .i64 ((i : Int) / wd)] := hv; subst hv; simp only [Act.put, List.setIfInBounds_toArray, List.set_cons_zero, List.set_cons_succ])
            (refine wpRel_callC rfl 111 _ rfl Try.func111 (by kernel_rfl) (by kernel_rfl) [.agg #[.int .i64 wd, .int .i64 hi, .bool wb], .agg #[.int .i64 ((i : Int) % wd), .int .i64 ((i : Int) / wd)]] rfl (fun w' hw' => (implBeside wd hi ((i : Int) % wd) ((i : Int) / wd) wb w' s1 s2).mono (by rintro e w'' ⟨rfl, q9⟩; exact ⟨_, rfl, congrArg Value.bool HP.out, hw'.next q9⟩)) ?_; intro v hv; replace hv : v = .bool true := hv; subst hv; simp only [Act.put, List.setIfInBounds_toArray, List.set_cons_zero, List.set_cons_succ])
            (refine wpRel_plain rfl rfl ?_; intro K hK; go_big_quiet_op; (first | go_big_quiet_on | (refine ⟨_, fun _ _ => rfl, ?_⟩; go_big_quiet_on)))
            refine wpRel_nil ?_
            intro u3 hw'
            replace hw' : Below wr.heap.size wr u3 := hw'
            replace HS := HS.later hw'; replace HB := Lib.hid (HB.out.trans (hw'.mono HB.out.size)); clear hw' hu2 u2
            go_wp2
            go_roundw
            case rel => exact ⟨i + 1, by omega, by go_num, (by (rw [HN.out]) <;> (first | rfl | (go_num; done) | (simp [Int.add_assoc]; done))), HS, HB.out⟩
            case measure => simp [intOf]; omega
        · skip
          obtain rfl : i = n := by omega
          rw [HC1.out]
          go_wp2
          go_roundw
          case rel => exact ⟨_, rfl, .inr (.inr (.inl ⟨rfl, by omega⟩)), HS, HB.out⟩
          case measure => simp [intOf]
    · skip
      obtain ⟨rfl, hct⟩ := hj; replace hct := hct.symm; subst hct
      obtain ⟨HSc, HSf⟩ := HS.open
      have hix : ∀ w, (Instr.index 125 (.agg #[.func (.func 110) #[] #[], .func (.func 111) #[] #[], .func (.func 112) #[] #[]]) (.int .i64 2)).run Try.prog w = .ok (.func (.func 112) #[] #[]) w := fun w => by kernel_rfl
      go_wp2_with fail
      refine (CO.out _).mono ?_
      rintro r u1 ⟨rfl, q⟩
      replace HS := HS.later q; replace HB := Lib.hid (HB.out.trans (q.mono HB.out.size)); clear q HSc HSf
      go_wp2
      go_loopw [20, 5] (fun iv cv wr => ∃ i : Nat, i ≤ n ∧ iv = .int .i64 i ∧ cv = .int .i64 ((t0 + t1) + cnt (bordB wb wd hi) wd i) ∧ Blk wr gh #[.int .i64 wd, .int .i64 hi, .bool wb] 82 ∧ Below w.heap.size w wr) (fun iv _ _ => n - (intOf iv).toNat)
      case atStart => exact ⟨0, Nat.zero_le _, rfl, by rw [cnt]; simp, HS, HB.out⟩
      case round =>
        obtain ⟨i, hle, rfl, rfl, HS, hb⟩ := hrel
        replace HB := Lib.hid hb; clear hb
        have bi := cnt_in (bordB wb wd hi) wd i
        by_cases hlt : i < n
        · skip
          have ilt : (i : Int) < (n : Int) := by omega
          rcases hp : (bordB wb wd hi) ((i : Int) % wd) ((i : Int) / wd) with _ | _
          · skip
            have HP : Hid ((bordB wb wd hi) ((i : Int) % wd) ((i : Int) / wd) = false) := Lib.hid hp
            have HN := Lib.hid (cnt_no (p := (bordB wb wd hi)) (wd := wd) (m := i) hp); clear hp
            generalize cnt (bordB wb wd hi) wd i = ci at *
            obtain ⟨u2, hu2⟩ : ∃ u2 : World, u2 = wr := ⟨_, rfl⟩
            go_wp2_with fail
            refine wp_region_relC (Grows wr) (SpTwo 113 (.agg #[.int .i64 ((i : Int) % wd), .int .i64 ((i : Int) / wd)]) (.bool false)) (by kernel_rfl) (by kernel_rfl) (Grows.drew _) ?_
            (refine wpRel_plain rfl rfl ?_; intro K hK; go_big_quiet_op; (first | go_big_quiet_on | (refine ⟨_, fun _ _ => rfl, ?_⟩; go_big_quiet_on)))
            (refine wpRel_load rfl _ rfl (_) (fun w' hw' => run_loadVar_row w' _ _ _ _ _ _ (HS.later hw') Try.underlying82 rfl (by kernel_rfl)) ?_; simp only [Act.put, List.setIfInBounds_toArray, List.set_cons_zero, List.set_cons_succ])
            (refine wpRel_load rfl _ rfl (_) (fun w' hw' => run_loadVar_row w' _ _ _ _ _ _ (HS.later hw') Try.underlying82 rfl (by kernel_rfl)) ?_; simp only [Act.put, List.setIfInBounds_toArray, List.set_cons_zero, List.set_cons_succ])
            (refine wpRel_plain rfl rfl ?_; intro K hK; go_big_quiet_op; (first | go_big_quiet_on | (refine ⟨_, fun _ _ => rfl, ?_⟩; go_big_quiet_on)))
            (refine wpRel_callC rfl 113 _ rfl Try.func113 (by kernel_rfl) (by kernel_rfl) [.agg #[.int .i64 wd, .int .i64 hi, .bool wb], .int .i64 (i : Int)] rfl (fun w' hw' => (implCellAt wd hi (i : Int) wb w' s1 s2 (by omega) (by omega)).mono (by rintro e w'' ⟨rfl, q9⟩; exact ⟨_, rfl, rfl, hw'.next q9⟩)) ?_; intro v hv; replace hv : v = .agg #[.int .i64 ((i : Int) % wd), .int .i64 ((i : Int) / wd)] := hv; subst hv; simp only [Act.put, List.setIfInBounds_toArray, List.set_cons_zero, List.set_cons_succ])
            (refine wpRel_callC rfl 112 _ rfl Try.func112 (by kernel_rfl) (by kernel_rfl) [.agg #[.int .i64 wd, .int .i64 hi, .bool wb], .agg #[.int .i64 ((i : Int) % wd), .int .i64 ((i : Int) / wd)]] rfl (fun w' hw' => (implBorder wd hi ((i : Int) % wd) ((i : Int) / wd) wb w' s1 s2 s3 s4).mono (by rintro e w'' ⟨rfl, q9⟩; exact ⟨_, rfl, congrArg Value.bool HP.out, hw'.next q9⟩)) ?_; intro v hv; replace hv : v = .bool false := hv; subst hv; simp only [Act.put, List.setIfInBounds_toArray, List.set_cons_zero, List.set_cons_succ])
            (refine wpRel_plain rfl rfl ?_; intro K hK; go_big_quiet_op; (first | go_big_quiet_on | (refine ⟨_, fun _ _ => rfl, ?_⟩; go_big_quiet_on)))
            refine wpRel_nil ?_
            intro u3 hw'
            replace hw' : Below wr.heap.size wr u3 := hw'
            replace HS := HS.later hw'; replace HB := Lib.hid (HB.out.trans (hw'.mono HB.out.size)); clear hw' hu2 u2
            go_wp2
            go_roundw
            case rel => exact ⟨i + 1, by omega, by go_num, (by (rw [HN.out]) <;> (first | rfl | (go_num; done) | (simp [Int.add_assoc]; done))), HS, HB.out⟩
            case measure => simp [intOf]; omega
          · skip
            have HP : Hid ((bordB wb wd hi) ((i : Int) % wd) ((i : Int) / wd) = true) := Lib.hid hp
            have HN := Lib.hid (cnt_yes (p := (bordB wb wd hi)) (wd := wd) (m := i) hp); clear hp
            generalize cnt (bordB wb wd hi) wd i = ci at *
            obtain ⟨u2, hu2⟩ : ∃ u2 : World, u2 = wr := ⟨_, rfl⟩
            go_wp2_with fail
            refine wp_region_relC (Grows wr) (SpTwo 113 (.agg #[.int .i64 ((i : Int) % wd), .int .i64 ((i : Int) / wd)]) (.bool true)) (by kernel_rfl) (by kernel_rfl) (Grows.drew _) ?_
            (refine wpRel_plain rfl rfl ?_; intro K hK; go_big_quiet_op; (first | go_big_quiet_on | (refine ⟨_, fun _ _ => rfl, ?_⟩; go_big_quiet_on)))
            (refine wpRel_load rfl _ rfl (_) (fun w' hw' => run_loadVar_row w' _ _ _ _ _ _ (HS.later hw') Try.underlying82 rfl (by kernel_rfl)) ?_; simp only [Act.put, List.setIfInBounds_toArray, List.set_cons_zero, List.set_cons_succ])
            (refine wpRel_load rfl _ rfl (_) (fun w' hw' => run_loadVar_row w' _ _ _ _ _ _ (HS.later hw') Try.underlying82 rfl (by kernel_rfl)) ?_; simp only [Act.put, List.setIfInBounds_toArray, List.set_cons_zero, List.set_cons_succ])
            (refine wpRel_plain rfl rfl ?_; intro K hK; go_big_quiet_op; (first | go_big_quiet_on | (refine ⟨_, fun _ _ => rfl, ?_⟩; go_big_quiet_on)))
            (refine wpRel_callC rfl 113 _ rfl Try.func113 (by kernel_rfl) (by kernel_rfl) [.agg #[.int .i64 wd, .int .i64 hi, .bool wb], .int .i64 (i : Int)] rfl (fun w' hw' => (implCellAt wd hi (i : Int) wb w' s1 s2 (by omega) (by omega)).mono (by rintro e w'' ⟨rfl, q9⟩; exact ⟨_, rfl, rfl, hw'.next q9⟩)) ?_; intro v hv; replace hv : v = .agg #[.int .i64 ((i : Int) % wd), .int .i64 ((i : Int) / wd)] := hv; subst hv; simp only [Act.put, List.setIfInBounds_toArray, List.set_cons_zero, List.set_cons_succ])
            (refine wpRel_callC rfl 112 _ rfl Try.func112 (by kernel_rfl) (by kernel_rfl) [.agg #[.int .i64 wd, .int .i64 hi, .bool wb], .agg #[.int .i64 ((i : Int) % wd), .int .i64 ((i : Int) / wd)]] rfl (fun w' hw' => (implBorder wd hi ((i : Int) % wd) ((i : Int) / wd) wb w' s1 s2 s3 s4).mono (by rintro e w'' ⟨rfl, q9⟩; exact ⟨_, rfl, congrArg Value.bool HP.out, hw'.next q9⟩)) ?_; intro v hv; replace hv : v = .bool true := hv; subst hv; simp only [Act.put, List.setIfInBounds_toArray, List.set_cons_zero, List.set_cons_succ])
            (refine wpRel_plain rfl rfl ?_; intro K hK; go_big_quiet_op; (first | go_big_quiet_on | (refine ⟨_, fun _ _ => rfl, ?_⟩; go_big_quiet_on)))
            refine wpRel_nil ?_
            intro u3 hw'
            replace hw' : Below wr.heap.size wr u3 := hw'
            replace HS := HS.later hw'; replace HB := Lib.hid (HB.out.trans (hw'.mono HB.out.size)); clear hw' hu2 u2
            go_wp2
            go_roundw
            case rel => exact ⟨i + 1, by omega, by go_num, (by (rw [HN.out]) <;> (first | rfl | (go_num; done) | (simp [Int.add_assoc]; done))), HS, HB.out⟩
            case measure => simp [intOf]; omega
        · skip
          obtain rfl : i = n := by omega
          rw [HC2.out]
          go_wp2
          go_roundw
          case rel => exact ⟨_, rfl, .inr (.inr (.inr ⟨rfl, by omega⟩)), HS, HB.out⟩
          case measure => simp [intOf]
    · skip
      obtain ⟨rfl, hct⟩ := hj; replace hct := hct.symm; subst hct
      go_wp2
      go_ret2
      exact ⟨by rw [HCE.out]; rfl, HB.out⟩

set_option maxHeartbeats 4000000 in
set_option maxRecDepth 100000 in
theorem specSheetCostL (wd hi : Int) (wb : Bool) (a b : Option Addr) (ca cb : Nat) (xs ys : List Nat) (w : World) (ha : RowV w a (fvals xs)) (hb : RowV w b (fvals ys)) (qa : ∀ z ∈ xs, z < 2 ^ 32) (qb : ∀ z ∈ ys, z < 2 ^ 32) (hx : xs.length ≤ maxLen) (hy : ys.length ≤ maxLen) :
    Calls Try.prog 53 #[.agg #[.int .i64 wd, .int .i64 hi, .bool wb, .slice a xs.length ca, .slice b ys.length cb]] w fun e w' => e = .returned (.tuple #[.int .i64 (ifI (validB wd hi xs ys) (costI wd hi wb)), .bool (validB wd hi xs ys)]) ∧ Below w.heap.size w w' := by
  rcases hv : validB wd hi xs ys with _ | _
  · skip
    have H_v := Lib.hid hv; clear hv
    have X := Blk.new w #[.int .i64 wd, .int .i64 hi, .bool wb, .slice a xs.length ca, .slice b ys.length cb] 29
    have HB : Hid (Below w.heap.size w (w.alloc (.cells #[.int .i64 wd, .int .i64 hi, .bool wb, .slice a xs.length ca, .slice b ys.length cb] 29))) := Lib.hid ((Below.refl w.heap.size w).alloc (by simp <;> omega) _)
    go_enter Try.func53, Try.ntmps53
    go_wp2_with fail
    generalize (w.alloc (.cells #[.int .i64 wd, .int .i64 hi, .bool wb, .slice a xs.length ca, .slice b ys.length cb] 29)) = u1 at *
    refine (specIs _ _ _ _ _ _ _ _ _ _ _ X (ha.later HB.out) (hb.later HB.out) hx hy).mono ?_
    rintro r u2 ⟨rfl, nq, hw⟩
    have q : Below u1.heap.size u1 u2 := by rw [hw]; exact below_drewN (Below.refl _ _) _
    clear hw
    replace X := X.later q
    replace HB := Lib.hid (HB.out.trans (q.mono HB.out.size))
    clear q
    rw [H_v.out]
    go_wp2
    go_ret2
    exact ⟨rfl, HB.out⟩
  obtain ⟨s1, s2, s3, s4, hm2, lx, ly⟩ := valid_parts hv
  have H_v := Lib.hid hv; clear hv lx ly
  have e1 : 0 ≤ wd * hi := Int.mul_nonneg (by omega) (by omega)
  have HQ : Hid (6 * wd * hi = 6 * (wd * hi)) := Lib.hid (Int.mul_assoc _ _ _)
  cases wb with
  | true =>
    have HV : Hid (costI wd hi true = 6 * wd * hi) := Lib.hid rfl
    have r1 : 0 ≤ 6 * wd * hi ∧ 6 * wd * hi ≤ 1536 := by rw [HQ.out]; omega
    rw [show ifI true (costI wd hi true) = costI wd hi true from rfl, HV.out]
    have X := Blk.new w #[.int .i64 wd, .int .i64 hi, .bool true, .slice a xs.length ca, .slice b ys.length cb] 29
    have HB : Hid (Below w.heap.size w (w.alloc (.cells #[.int .i64 wd, .int .i64 hi, .bool true, .slice a xs.length ca, .slice b ys.length cb] 29))) := Lib.hid ((Below.refl w.heap.size w).alloc (by simp <;> omega) _)
    go_enter Try.func53, Try.ntmps53
    go_wp2_with fail
    generalize (w.alloc (.cells #[.int .i64 wd, .int .i64 hi, .bool true, .slice a xs.length ca, .slice b ys.length cb] 29)) = u1 at *
    refine (specIs _ _ _ _ _ _ _ _ _ _ _ X (ha.later HB.out) (hb.later HB.out) hx hy).mono ?_
    rintro r u2 ⟨rfl, nq, hw⟩
    have q : Below u1.heap.size u1 u2 := by rw [hw]; exact below_drewN (Below.refl _ _) _
    clear hw
    replace X := X.later q
    replace HB := Lib.hid (HB.out.trans (q.mono HB.out.size))
    clear q
    rw [H_v.out]
    obtain ⟨Xc, Xf⟩ := X.open
    go_wp2
    go_ret2
    exact ⟨rfl, HB.out⟩
  | false =>
    have HV : Hid (costI wd hi false = 2 * wd * (hi - 1) + 2 * (wd - 1) * hi + 2 * (wd - 2) * (hi - 2)) := Lib.hid rfl
    have r2 : 0 ≤ 2 * wd * (hi - 1) ∧ 2 * wd * (hi - 1) ≤ 512 := by rw [Int.mul_assoc]; have p0 := Int.mul_nonneg (show 0 ≤ wd by omega) (show 0 ≤ (hi - 1) by omega); have p1 := Int.mul_le_mul (show wd ≤ 16 by omega) (show (hi - 1) ≤ 16 by omega) (by omega) (by omega); omega
    have r3 : 0 ≤ 2 * (wd - 1) * hi ∧ 2 * (wd - 1) * hi ≤ 512 := by rw [Int.mul_assoc]; have p0 := Int.mul_nonneg (show 0 ≤ (wd - 1) by omega) (show 0 ≤ hi by omega); have p1 := Int.mul_le_mul (show (wd - 1) ≤ 16 by omega) (show hi ≤ 16 by omega) (by omega) (by omega); omega
    have r4 : 0 ≤ 2 * (wd - 2) * (hi - 2) ∧ 2 * (wd - 2) * (hi - 2) ≤ 512 := by rw [Int.mul_assoc]; have p0 := Int.mul_nonneg (show 0 ≤ (wd - 2) by omega) (show 0 ≤ (hi - 2) by omega); have p1 := Int.mul_le_mul (show (wd - 2) ≤ 16 by omega) (show (hi - 2) ≤ 16 by omega) (by omega) (by omega); omega
    rw [show ifI true (costI wd hi false) = costI wd hi false from rfl, HV.out]
    have X := Blk.new w #[.int .i64 wd, .int .i64 hi, .bool false, .slice a xs.length ca, .slice b ys.length cb] 29
    have HB : Hid (Below w.heap.size w (w.alloc (.cells #[.int .i64 wd, .int .i64 hi, .bool false, .slice a xs.length ca, .slice b ys.length cb] 29))) := Lib.hid ((Below.refl w.heap.size w).alloc (by simp <;> omega) _)
    go_enter Try.func53, Try.ntmps53
    go_wp2_with fail
    generalize (w.alloc (.cells #[.int .i64 wd, .int .i64 hi, .bool false, .slice a xs.length ca, .slice b ys.length cb] 29)) = u1 at *
    refine (specIs _ _ _ _ _ _ _ _ _ _ _ X (ha.later HB.out) (hb.later HB.out) hx hy).mono ?_
    rintro r u2 ⟨rfl, nq, hw⟩
    have q : Below u1.heap.size u1 u2 := by rw [hw]; exact below_drewN (Below.refl _ _) _
    clear hw
    replace X := X.later q
    replace HB := Lib.hid (HB.out.trans (q.mono HB.out.size))
    clear q
    rw [H_v.out]
    obtain ⟨Xc, Xf⟩ := X.open
    go_wp2
    go_ret2
    exact ⟨rfl, HB.out⟩

end Go.Proofs.Ythlkndjllhdppaa
