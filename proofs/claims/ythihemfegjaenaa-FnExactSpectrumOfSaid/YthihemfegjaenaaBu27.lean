/- Several texts in one: facts on floats, lists, memory and the functions that the theorems beside this text use. Conditions: none beyond those of each theorem. -/
import Derived.Test.YthihemfegjaenaaBu26
import Derived.Test.YthihemfegjaenaaBu14
import Derived.Test.YthihemfegjaenaaAngle2
import Derived.Test.YthihemfegjaenaaCallV
import Derived.Test.YthihemfegjaenaaBu5
import Derived.Test.YthihemfegjaenaaPlan
import Derived.Deep.WholeRow
import Derived.Laws.CopyOwn

set_option linter.unusedVariables false

section

namespace Go.Proofs.Ythihemfegjaenaa
open Go Ieee Go.RowKit
set_option linter.unusedVariables false
set_option linter.unusedSimpArgs false

def cvals (zs : List (Nat × Nat)) : List Value := zs.map fun p => Value.complex .f32 p.1 p.2
theorem cvals_length (zs : List (Nat × Nat)) : (cvals zs).length = zs.length := List.length_map ..
theorem cvals_get {zs : List (Nat × Nat)} {i : Nat} (h : i < zs.length) : (cvals zs)[i]? = some (.complex .f32 zs[i].1 zs[i].2) := by
  unfold cvals; rw [List.getElem?_map, List.getElem?_eq_getElem h]; rfl
theorem cvals_set (zs : List (Nat × Nat)) (k : Nat) (p : Nat × Nat) : (cvals zs).set k (.complex .f32 p.1 p.2) = cvals (zs.set k p) := by unfold cvals; rw [List.map_set]
theorem cvals_snoc (zs : List (Nat × Nat)) (p q : Nat) : cvals (zs ++ [(p, q)]) = cvals zs ++ [.complex .f32 p q] := by unfold cvals; rw [List.map_append]; rfl
def ccl (zs : List (Nat × Nat)) : List CC := zs.map fun p => (canon .f32 p.1, canon .f32 p.2)
structure IsC (ys : List (Nat × Nat)) (m : List CC) : Prop where
  eq : ccl ys = m
  lt : ∀ y ∈ ys, y.1 < 2 ^ 32 ∧ y.2 < 2 ^ 32
  few : ys.length ≤ 64
theorem IsC.nil : IsC [] [] := ⟨rfl, (fun _ h => by cases h), (by decide)⟩
def toldCC (n : Nat) (G : Nat → CC) : List CC := (List.range n).map G

/-- such a list behind k cells -/
structure ToC (n : Nat) (G : Nat → CC) (k : Nat) (L : List (Nat × Nat)) : Prop where
  len : L.length = n
  lt : ∀ z ∈ L, z.1 < 2 ^ 32 ∧ z.2 < 2 ^ 32
  num : ∀ j (h : j < L.length), j < k → (canon .f32 L[j].1, canon .f32 L[j].2) = G j
theorem ToC.start (n : Nat) (G : Nat → CC) : ToC n G 0 (List.replicate n (0, 0)) := ⟨by simp, fun z hz => by rw [List.eq_of_mem_replicate hz]; decide, fun _ _ h => by omega⟩
theorem ToC.next {n k : Nat} {G : Nat → CC} {L : List (Nat × Nat)} (h : ToC n G k L) (hk : k < n) {p q : Nat} (hp : p < 2 ^ 32) (hq : q < 2 ^ 32) (h1 : canon .f32 p = (G k).1) (h2 : canon .f32 q = (G k).2) : ToC n G (k + 1) (L.set k (p, q)) := by
  refine ⟨by rw [List.length_set]; exact h.len, fun z hz => ?_, fun j hj hjk => ?_⟩
  · rcases List.mem_or_eq_of_mem_set hz with h' | h'
    · exact h.lt _ h'
    · rw [h']; exact ⟨hp, hq⟩
  · rw [List.length_set] at hj
    by_cases e : j = k
    · subst e; simp only [List.getElem_set_self]; rw [h1, h2]
    · simp only [List.getElem_set_ne (fun he => e he.symm)]; exact h.num j hj (by omega)
theorem ToC.all {n : Nat} {G : Nat → CC} {L : List (Nat × Nat)} (h : ToC n G n L) (hn : n ≤ 64) : IsC L (toldCC n G) := by
  refine ⟨?_, h.lt, by rw [h.len]; exact hn⟩
  apply List.ext_getElem
  · unfold ccl toldCC; rw [List.length_map, List.length_map, List.length_range, h.len]
  · intro i hi hi'
    have hz : i < L.length := by unfold ccl at hi; rw [List.length_map] at hi; exact hi
    simp only [ccl, toldCC, List.getElem_map, List.getElem_range]
    exact h.num i hz (by rw [← h.len]; exact hz)
theorem ToC.snoc {k : Nat} {G : Nat → CC} {L : List (Nat × Nat)} (h : ToC k G k L) {p q : Nat} (hp : p < 2 ^ 32) (hq : q < 2 ^ 32) (h1 : canon .f32 p = (G k).1) (h2 : canon .f32 q = (G k).2) : ToC (k + 1) G (k + 1) (L ++ [(p, q)]) := by
  refine ⟨by simp [h.len], fun z hz => ?_, fun j hj hjk => ?_⟩
  · rcases List.mem_append.1 hz with h' | h'
    · exact h.lt _ h'
    · rw [List.mem_singleton.1 h']; exact ⟨hp, hq⟩
  · by_cases e : j < L.length
    · simp only [List.getElem_append_left e]; exact h.num j e (by rw [← h.len]; exact e)
    · have hl := h.len
      obtain rfl : j = k := by simp at hj; omega
      simp only [List.getElem_append_right (show L.length ≤ j by omega)]
      simp [hl, h1, h2]

theorem mark_bits : ∀ k : Nat, k < 130 → floatToFloatBits .f64 (floatOfInt .f64 (k : Int)) .f32 = some (floatOfInt .f32 (k : Int)) := by decide +kernel
theorem mark_conv {k : Int} (w : World) (h0 : 0 ≤ k) (h1 : k < 130) : (convert 64 60 (.complex .f64 (floatOfInt .f64 k) 4607182418800017408)).run Try.prog w = .ok (.complex .f32 (mk k) 1065353216) w := by
  obtain ⟨n, rfl⟩ := Int.eq_ofNat_of_zero_le h0
  have h2 := run_conv_exact (P := Try.prog) w (src := .f64) (dst := .f32) (by decide) (mark_bits n (by omega))
  have h3 := run_conv_exact (P := Try.prog) w (src := .f64) (dst := .f32) (by decide) (show floatToFloatBits .f64 4607182418800017408 .f32 = some 1065353216 by decide +kernel)
  simp [convert, run_underlying Try.underlying64, run_underlying Try.underlying60, Conv.complexToComplex, h2, h3]
  rfl
theorem mark_eq (k : Int) : (FloatKind.f32.format.order (mk k) (mk k) == some .eq) = true := by
  have h1 : isN .f32 (mk k) = false := (canon_some (mk_canon k)).2
  have h2 : (FloatKind.f32.format.order (mk k) (mk k) != some .eq) = false := by rw [neq_self, h1]
  simpa [bne] using h2

def marksC (k : Int) (n : Nat) : List (Nat × Nat) := (List.range n).map fun (i : Nat) => (mk (k + (i : Int)), 1065353216)
theorem marksC_length (k : Int) (n : Nat) : (marksC k n).length = n := by simp [marksC]
theorem marksC_get {k : Int} {n i : Nat} (h : i < n) : (cvals (marksC k n))[i]? = some (.complex .f32 (mk (k + i)) 1065353216) := by
  rw [cvals_get (by rw [marksC_length]; exact h)]
  simp [marksC]

def markedC (k : Int) (vs : List Value) (i : Nat) : List Value := ((cvals (marksC k vs.length)).take i) ++ vs.drop i
theorem markedC_zero (k : Int) (vs : List Value) : markedC k vs 0 = vs := by simp [markedC]
theorem markedC_all (k : Int) (vs : List Value) : markedC k vs vs.length = cvals (marksC k vs.length) := by
  unfold markedC
  rw [List.drop_length, List.append_nil, List.take_of_length_le (by rw [cvals_length, marksC_length]; exact Nat.le_refl _)]
theorem markedC_length (k : Int) (vs : List Value) (i : Nat) (h : i ≤ vs.length) : (markedC k vs i).length = vs.length := by
  unfold markedC; simp [cvals_length, marksC_length]; omega
theorem markedC_next (k : Int) (vs : List Value) (i : Nat) (h : i < vs.length) : (markedC k vs i).set i (.complex .f32 (mk (k + i)) 1065353216) = markedC k vs (i + 1) := by
  have hl := markedC_length k vs i (by omega)
  apply List.ext_getElem?
  intro j
  rw [List.getElem?_set]
  by_cases hj : i = j
  · subst hj
    rw [if_pos rfl, hl, if_pos h]
    unfold markedC
    rw [List.getElem?_append_left (by simp [cvals_length, marksC_length]; omega), List.getElem?_take, if_pos (by omega), marksC_get h]
  · rw [if_neg hj]
    unfold markedC
    by_cases h2 : j < i
    · rw [List.getElem?_append_left (by simp [cvals_length, marksC_length]; omega), List.getElem?_append_left (by simp [cvals_length, marksC_length]; omega), List.getElem?_take, List.getElem?_take, if_pos h2, if_pos (by omega)]
    · rw [List.getElem?_append_right (by simp [cvals_length, marksC_length]; omega), List.getElem?_append_right (by simp [cvals_length, marksC_length]; omega)]
      simp only [List.length_take, cvals_length, marksC_length, List.getElem?_drop]
      congr 1
      omega

def MarkedC (B : Nat) (a : Option Addr) (k : Int) (n : Nat) (w : World) (e : Ending) (w' : World) : Prop :=
  e = .returned (.int .i64 (k + n)) ∧ OwnV w' B a (cvals (marksC k n)) ∧ w.grownBy w' (blockOf a)

set_option maxHeartbeats 1000000 in
theorem markC (B : Nat) (a : Option Addr) (ca : Nat) (vs : List Value) (k : Int) (w : World) (hr : OwnV w B a vs) (hk : 0 ≤ k) (hn : k + vs.length ≤ 128) :
    Calls Try.prog 47 #[.slice a vs.length ca, .int .i64 k] w (MarkedC B a k vs.length w) := by
  rcases hr with ⟨rfl, rfl⟩ | ⟨g, cs, t, rfl, hg, hb, hv⟩
  · go_enter Try.func47, Try.ntmps47
    go_wp2
    refine wp_loop_rounds 1 ?_
    rw [rounds_succ]
    go_wp2
    go_ret
    exact ⟨by simp, .inl ⟨rfl, by simp [marksC, cvals]⟩, grown_refl _ _⟩
  · generalize hlen : vs.length = n at hn ⊢
    have HL := Lib.hid hlen
    have HV := Lib.hid hv
    clear hlen hv
    go_enter Try.func47, Try.ntmps47
    go_wp2
    go_loopw [1, 5] (fun q i wr => ∃ j : Nat, j ≤ n ∧ i = .int .i64 j ∧ q = .int .i64 (k + j) ∧ (∃ cr, Blk wr g cr t ∧ ∀ (i : Nat) (u : Value), (markedC k vs j)[i]? = some u → cr[i]? = some u) ∧ w.grownBy wr (some g)) (fun _ i _ => n - (intOf i).toNat)
    case atStart => exact ⟨0, Nat.zero_le _, rfl, by simp, ⟨cs, hb, by rw [markedC_zero]; exact HV.out⟩, grown_refl _ _⟩
    case round =>
      obtain ⟨j, hj, rfl, rfl, ⟨cr, hcr, hvr⟩, hgr⟩ := hrel
      have HVR := Lib.hid hvr
      have HGR := Lib.hid hgr
      clear hvr hgr
      by_cases hlt : j < n
      · have hml := markedC_length k vs j (by rw [HL.out]; exact hj)
        obtain ⟨old, ho⟩ : ∃ u, (markedC k vs j)[j]? = some u := ⟨_, List.getElem?_eq_getElem (by rw [hml, HL.out]; exact hlt)⟩
        have hold := HVR.out j _ ho
        have hsz : j < cr.size := (Array.getElem?_eq_some_iff.1 hold).1
        have hc := hcr.open.1 j
        have hf := hcr.open.2 j
        rw [hold] at hc
        have HM := Lib.hid (markedC_next k vs j (by rw [HL.out]; exact hlt))
        have HS := Lib.hid (hcr.set j (.complex .f32 (mk (k + j)) 1065353216))
        have HZ := Lib.hid hsz
        clear hold hml hsz ho
        have HCV : ∀ w, (convert 64 60 (.complex .f64 (floatOfInt .f64 (k + j)) 4607182418800017408)).run Try.prog w = .ok (.complex .f32 (mk (k + j)) 1065353216) w := fun w => mark_conv w (by omega) (by omega)
        go_wp2
        go_roundw
        case rel =>
          refine ⟨j + 1, by omega, by go_num, by go_num, ⟨_, HS.out, fun i u hu => ?_⟩, grown_set HGR.out _ _⟩
          rw [← HM.out, List.getElem?_set] at hu
          rw [Array.getElem?_setIfInBounds]
          by_cases he : j = i
          · subst he
            rw [if_pos rfl] at hu ⊢
            rw [if_pos HZ.out]
            split at hu
            · exact hu
            · cases hu
          · rw [if_neg he] at hu ⊢
            exact HVR.out i u hu
        case measure => simp [intOf]; omega
      · obtain rfl : j = n := by omega
        go_wp2
        go_ret
        refine ⟨rfl, .inr ⟨g, cr, t, rfl, hg, hcr, ?_⟩, HGR.out⟩
        have := HVR.out
        rw [← HL.out, markedC_all] at this
        rw [← HL.out]; exact this

set_option maxHeartbeats 1000000 in
theorem heldC (a : Option Addr) (ca n : Nat) (k : Int) (w : World) (hr : RowV w a (cvals (marksC k n))) (hk : 0 ≤ k) (hn : k + n ≤ 128) :
    Calls Try.prog 48 #[.slice a n ca, .int .i64 k] w fun e w' => e = .returned (.int .i64 (k + n)) ∧ w = w' := by
  go_enter Try.func48, Try.ntmps48
  go_wp2
  go_loopw [1, 5] (fun q i wr => ∃ j : Nat, j ≤ n ∧ i = .int .i64 j ∧ q = .int .i64 (k + j) ∧ w = wr) (fun _ i _ => n - (intOf i).toNat)
  case atStart => exact ⟨0, Nat.zero_le _, rfl, by simp, rfl⟩
  case round =>
    obtain ⟨j, hj, rfl, rfl, rfl⟩ := hrel
    by_cases hlt : j < n
    · obtain ⟨b, off, rfl, hc⟩ := hr j _ (marksC_get hlt)
      have HCV : ∀ w, (convert 64 60 (.complex .f64 (floatOfInt .f64 (k + j)) 4607182418800017408)).run Try.prog w = .ok (.complex .f32 (mk (k + j)) 1065353216) w := fun w => mark_conv w (by omega) (by omega)
      have HE1 := mark_eq (k + j)
      have HE2 : (FloatKind.f32.format.order 1065353216 1065353216 == some .eq) = true := by decide +kernel
      go_wp2
      go_roundw
      case rel => exact ⟨j + 1, by omega, by go_num, by go_num, by trivial⟩
      case measure => simp [intOf]; omega
    · obtain rfl : j = n := by omega
      go_wp2
      go_ret
      exact ⟨rfl, rfl⟩

section
variable {P : Program} {ops : Array Oper} {Sp : FuncId → Array Value → Value → Prop} {Q : Act → Prop} {w0 : World} {a : Act} {rest : List Oper}
theorem rel_of_runC {o : Oper} {K : Act → Prop} (k : FloatKind) (A B : Option Nat)
    (h : ∀ n, ∃ u v m, (execOp a.eval o).run P (w0.drewN n) = .ok (.value (.complex k u v)) ((w0.drewN n).drewN m) ∧ canon k u = A ∧ canon k v = B)
    (hk : ∀ u v, canon k u = A → canon k v = B → K (a.put o.dst (.complex k u v))) : relOp P (fun w' => ∃ n, w' = w0.drewN n) Sp o a K := by
  refine ⟨fun w hw => ?_, fun z hu => ?_⟩
  · obtain ⟨n, rfl⟩ := hw
    obtain ⟨u, v, m, hr, _⟩ := h n
    rw [hr]
    exact ⟨n + m, World.drewN_drewN ..⟩
  · obtain ⟨w, ⟨n, rfl⟩, hm⟩ := hu
    obtain ⟨u, v, m, hr, hc, hl⟩ := h n
    rw [hr] at hm
    rw [← (show Value.complex k u v = z from hm)]
    exact hk u v hc hl

theorem wpRel_cconv {dst : Option Tmp} {ty : TypeId} {pos : String} {after : Array Edge} {guard : Option (Nat × Bool)} {t t2 : TypeId} {x : Operand}
    (hw : Region.wanted { dst := dst, op := .convert t t2 x, type := ty, pos := pos, after := after, guard := guard } (yielded ops a.tmps) = true) (src kd : FloatKind) (hne : src ≠ kd) (p q : Nat) (hx : a.eval x = .complex src p q) (hs : P.underlying t = some (.complex src)) (hd : P.underlying t2 = some (.complex kd))
    (hp : p < 2 ^ src.format.width) (hq : q < 2 ^ src.format.width) (fp : fits src kd p) (fq : fits src kd q)
    (h : ∀ u v, canon kd u = fconv src kd (canon src p) → canon kd v = fconv src kd (canon src q) → ∀ K : Act → Prop, (∀ a, wpRel P ops (fun w' => ∃ n, w' = w0.drewN n) Sp Q rest a → K a) →
      Oper.quiet P { dst := dst, op := .assign (.const (.complex kd u v)), type := ty, pos := pos, after := after, guard := guard } a (fun w' => ∃ n, w' = w0.drewN n) K) :
    wpRel P ops (fun w' => ∃ n, w' = w0.drewN n) Sp Q ({ dst := dst, op := .convert t t2 x, type := ty, pos := pos, after := after, guard := guard } :: rest) a := by
  refine wpRel_want hw (rel_of_runC kd (fconv src kd (canon src p)) (fconv src kd (canon src q)) (fun n => ?_) fun u v h1 h2 => put_of_quiet (w := w0) ⟨0, rfl⟩ (h u v h1 h2))
  obtain ⟨u, v, m, hr, h1, h2, _, _⟩ := run_cconv (P := P) (w0.drewN n) src kd hne p q hp hq fp fq
  refine ⟨u, v, m, ?_, h1, h2⟩
  unfold execOp
  have e : (convert t t2 (.complex src p q)).run P (w0.drewN n) = .ok (.complex kd u v) ((w0.drewN n).drewN m) := by
    simp [convert, run_underlying hs, run_underlying hd, hr]
  simp only [hx, Sem.run_bind, Sem.run_pure, Result.andThen_ok, e]
end

theorem isC_at {xs : List (Nat × Nat)} {m : List CC} (h : IsC xs m) {k : Nat} (hk : k < xs.length) : m[k]? = some (canon .f32 xs[k].1, canon .f32 xs[k].2) := by
  rw [← h.eq]; unfold ccl; rw [List.getElem?_map, List.getElem?_eq_getElem hk]; rfl
theorem isC_len {xs : List (Nat × Nat)} {m : List CC} (h : IsC xs m) : xs.length = m.length := by rw [← h.eq]; unfold ccl; rw [List.length_map]

set_option maxHeartbeats 2000000 in
theorem eqC64s (a b : Option Addr) (ca cb : Nat) (xs ys : List (Nat × Nat)) (m : List CC) (w : World) (ha : RowV w a (cvals xs)) (hb : RowV w b (cvals ys)) (hX : IsC xs m) (hY : IsC ys m) :
    Calls Try.prog 46 #[.slice a xs.length ca, .slice b ys.length cb] w fun e w' => e = .returned (.bool true) ∧ ∃ n, w' = w.drewN n := by
  have hs : ∀ k (k1 : k < xs.length) (k2 : k < ys.length), canon .f32 xs[k].1 = canon .f32 ys[k].1 ∧ canon .f32 xs[k].2 = canon .f32 ys[k].2 := fun k k1 k2 => by
    have e1 := isC_at hX k1; have e2 := isC_at hY k2
    rw [e1] at e2
    injection e2 with e3
    exact ⟨congrArg Prod.fst e3, congrArg Prod.snd e3⟩
  have hl : xs.length = ys.length := (isC_len hX).trans (isC_len hY).symm
  have hx := hX.lt; have hy := hY.lt; have hn := hX.few
  clear hX hY
  have HY := Lib.hid hl
  rw [← hl]
  clear hl
  generalize hlen : xs.length = n at hn HY ⊢
  have HL := Lib.hid hlen
  clear hlen
  go_enter Try.func46, Try.ntmps46
  go_wp2
  go_loopw [5] (fun i wr => ∃ k : Nat, k ≤ n ∧ i = .int .i64 k ∧ ∃ m, wr = w.drewN m) (fun i _ => n - (intOf i).toNat)
  case atStart => exact ⟨0, Nat.zero_le _, rfl, 0, rfl⟩
  case round =>
    obtain ⟨k, hk, rfl, m, rfl⟩ := hrel
    by_cases hlt : k < n
    · have k1 : k < xs.length := by rw [HL.out]; exact hlt
      have k2 : k < ys.length := by rw [← HY.out]; exact hlt
      obtain ⟨ba, oa, rfl, c1⟩ := ha k _ (cvals_get k1)
      obtain ⟨bb, ob, rfl, c2⟩ := hb k _ (cvals_get k2)
      have hc := hs k k1 k2
      have b1 : xs[k].1 < 2 ^ FloatKind.f32.format.width := (hx _ (List.getElem_mem _)).1
      have b2 : ys[k].1 < 2 ^ FloatKind.f32.format.width := (hy _ (List.getElem_mem _)).1
      have b3 : xs[k].2 < 2 ^ FloatKind.f32.format.width := (hx _ (List.getElem_mem _)).2
      have b4 : ys[k].2 < 2 ^ FloatKind.f32.format.width := (hy _ (List.getElem_mem _)).2
      generalize xs[k].1 = x1 at *
      generalize ys[k].1 = y1 at *
      generalize xs[k].2 = x2 at *
      generalize ys[k].2 = y2 at *
      have HC := Lib.hid hc
      clear hc hs ha hb
      have hki : ((k : Nat) : Int) < (n : Int) := by omega
      have tka : True := trivial; have tkb : True := trivial
      go_wp2_with (refine wp_region_rel (Sp := fun _ _ v => v = .bool true) (by kernel_rfl) (by kernel_rfl) ?_; (repeat (first
        | (have _t := tka; refine wpRel_cconv rfl .f32 .f64 (by decide) _ _ rfl Try.underlying60 Try.underlying64 b1 b3 (fits_widen _) (fits_widen _) ?_; clear _t tka; intro u1 v1 hu1 hv1 K hK; have HU1 := Lib.hid hu1; have HV1 := Lib.hid hv1; clear hu1 hv1; go_big_quiet_op; go_big_quiet_on)
        | (have _t := tkb; refine wpRel_cconv rfl .f32 .f64 (by decide) _ _ rfl Try.underlying60 Try.underlying64 b2 b4 (fits_widen _) (fits_widen _) ?_; clear _t tkb; intro u2 v2 hu2 hv2 K hK; have HU2 := Lib.hid hu2; have HV2 := Lib.hid hv2; clear hu2 hv2; go_big_quiet_op; go_big_quiet_on)
        | (refine wpRel_call rfl 43 _ rfl Try.func43 (by kernel_rfl) (by kernel_rfl) [.complex .f64 _ _, .complex .f64 _ _] rfl (fun n => ?_) ?_; (refine (sameComplex_any _ _ _ _ _ (by rw [HU1.out, HU2.out, HC.out.1]) (by rw [HV1.out, HV2.out, HC.out.2])).mono ?_; rintro e w' ⟨rfl, q, rfl⟩; exact ⟨_, rfl, rfl, _, World.drewN_drewN ..⟩); intro v hv K hK; subst hv; go_big_quiet_op; go_big_quiet_on)
        | (refine wpRel_plain rfl rfl ?_; intro K hK; go_big_quiet_op; go_big_quiet_on))); (with_reducible refine wpRel_nil ?_); rintro w' ⟨nq, rfl⟩)
      go_wp2
      go_roundw
      case rel => exact ⟨k + 1, by omega, by go_num, _, rfl⟩
      case measure => simp [intOf]; omega
    · go_wp2
      go_ret
      exact ⟨rfl, _, rfl⟩

end Go.Proofs.Ythihemfegjaenaa

end

section

namespace Go.Proofs.Ythihemfegjaenaa
open Go Ieee Go.RowKit
set_option linter.unusedVariables false
set_option linter.unusedSimpArgs false

theorem Try.infoC64 : (Try.prog.info? 60).map (fun i => (i.zero, i.size, i.bytes)) = some (some (.complex .f32 0 0), 1, 8) := by kernel_rfl

theorem make_c64s (n : Nat) (hn : n ≤ 1048576) (w : World) : (Instr.makeSlice 66 (.int .i64 (n : Int)) (.int .i64 (n : Int))).run Try.prog w = .ok (.slice (some ⟨w.heap.size, 0, none⟩) n n) (w.alloc (.cells (List.replicate n (Value.complex .f32 0 0)).toArray 60)) := by
  obtain ⟨i0, hi, hz0, hz1, hz2⟩ := info_parts Try.infoC64
  have := run_make (P := Try.prog) w 66 60 i0 (.complex .f32 0 0) Try.underlying66 hi hz0 .i64 .i64 n n (by omega) (Int.le_refl _) (by rw [hz2]; omega) (by omega)
  rw [this, hz1, Nat.mul_one, Int.toNat_natCast]
  have e : madeCells (Value.complex FloatKind.f32 0 0).cells n = (List.replicate n (Value.complex .f32 0 0)).toArray := by
    apply Array.toList_inj.1
    rw [show (Value.complex FloatKind.f32 0 0).cells = #[.complex .f32 0 0] from rfl, toList_madeCells_one]
  rw [e]

theorem cvals_zeros (n : Nat) : cvals (List.replicate n (0, 0)) = List.replicate n (Value.complex .f32 0 0) := by unfold cvals; rw [List.map_replicate]

theorem own_zerosC (w : World) (n : Nat) (t : TypeId) : OwnV (w.alloc (.cells (List.replicate n (Value.complex .f32 0 0)).toArray t)) w.heap.size (some ⟨w.heap.size, 0, none⟩) (cvals (List.replicate n (0, 0))) :=
  .inr ⟨_, _, t, rfl, Nat.le_refl _, Blk.new w _ t, fun i u h => by rw [cvals_zeros] at h; rw [List.getElem?_toArray]; exact h⟩

theorem own_of_blkC {w : World} {g B : Nat} {L : List (Nat × Nat)} {t : TypeId} (h : Blk w g (cvals L).toArray t) (hB : B ≤ g) : OwnV w B (some ⟨g, 0, none⟩) (cvals L) := .inr ⟨g, _, t, rfl, hB, h, fun i u hu => by rw [List.getElem?_toArray]; exact hu⟩

set_option maxHeartbeats 8000000 in
set_option maxRecDepth 100000 in
theorem implListByC (n : Nat) (fc : FuncId) (r1 k1 : Array Value) (G : Nat → CC) (w : World) (n64 : n ≤ 64) (gC : IsGo fc)
    (hC : ∀ i : Nat, i < n → ∀ w', Below w.heap.size w w' → Calls Try.prog fc (r1 ++ #[.int .i64 (i : Int)] ++ k1) w' fun e w'' => ∃ p q, e = .returned (.complex .f32 p q) ∧ canon .f32 p = (G i).1 ∧ canon .f32 q = (G i).2 ∧ p < 2 ^ 32 ∧ q < 2 ^ 32 ∧ Below w'.heap.size w' w'') :
    Calls Try.prog 134 #[.int .i64 n, .func (.func fc) r1 k1] w fun e w' => ∃ g L, e = .returned (.slice (some ⟨g, 0, none⟩) n n) ∧ w.heap.size ≤ g ∧ Blk w' g (cvals L).toArray 60 ∧ ToC n G n L ∧ Below w.heap.size w w' := by
  have HST := Lib.hid (ToC.start n G)
  have HO0 : Hid (Blk (w.alloc (.cells (List.replicate n (Value.complex .f32 0 0)).toArray 60)) w.heap.size (cvals (List.replicate n (0, 0))).toArray 60) := Lib.hid (by rw [cvals_zeros]; exact Blk.new w _ _)
  have HB0 : Hid (Below w.heap.size w (w.alloc (.cells (List.replicate n (Value.complex .f32 0 0)).toArray 60))) := Lib.hid (below_new _ _)
  have HC := Lib.hid hC; clear hC
  have hmk := make_c64s n (by omega)
  have hn0 : (0 : Int) ≤ (n : Int) := Int.natCast_nonneg n
  go_enter Try.func134, Try.ntmps134
  go_wp2
  go_loopw [10] (fun iv wr => ∃ (k : Nat) (L : List (Nat × Nat)), k ≤ n ∧ iv = .int .i64 k ∧ ToC n G k L ∧ Blk wr w.heap.size (cvals L).toArray 60 ∧ Below w.heap.size w wr) (fun iv _ => n - (intOf iv).toNat)
  case atStart => exact ⟨0, _, Nat.zero_le _, rfl, HST.out, by simpa using HO0.out, by simpa using HB0.out⟩
  case round =>
    obtain ⟨k, L, hk, rfl, hM, hown, hb⟩ := hrel
    replace HO := Lib.hid hown; have HB := Lib.hid hb; have HM := Lib.hid hM; clear hown hb hM HST HO0 HB0 hmk
    by_cases hlt : k < n
    · skip
      have kL : k < L.length := by rw [HM.out.len]; exact hlt
      have hki : (k : Int) < (n : Int) := by omega
      have HYES : Hid (∀ p q, p < 2 ^ 32 → q < 2 ^ 32 → canon .f32 p = (G k).1 → canon .f32 q = (G k).2 → ToC n G (k + 1) (L.set k (p, q))) := Lib.hid (fun p q hp hq h1 h2 => HM.out.next hlt hp hq h1 h2)
      go_wp2_with (refine wpList_callV fc r1 k1 rfl gC [.int .i64 (k : Int)] rfl _ (HC.out k hlt _ HB.out) ?_; rintro e v5 ⟨p, q, rfl, hp, hq, lp, lq, b⟩; refine ⟨_, rfl, ?_⟩; have HN := Lib.hid (HYES.out p q lp lq hp hq); replace HO := Lib.hid (HO.out.later b); obtain ⟨gcc, gcf⟩ := HO.out.open; have f0 : v5.cell? ⟨w.heap.size, k, none⟩ = some _ := (gcc _).trans ((by rw [List.getElem?_toArray]; exact cvals_get kL)); have GF := gcf k; clear gcc gcf hp hq)
      have hp := HO.out.set k (.complex .f32 p q)
      rw [show (cvals L).toArray.setIfInBounds k (.complex .f32 p q) = (cvals (L.set k (p, q))).toArray by rw [← cvals_set]; simp] at hp
      have HP := Lib.hid hp; clear hp
      go_roundw
      case rel => exact ⟨k + 1, _, by omega, by go_num, HN.out, HP.out, (HB.out.trans (b.mono HB.out.size)).setCell (p := ⟨w.heap.size, k, none⟩) (Nat.le_refl _) _⟩
      case measure => simp [intOf]; omega
    · skip
      obtain rfl : k = n := by omega
      go_wp2
      go_ret
      exact ⟨_, L, rfl, Nat.le_refl _, HO.out, HM.out, HB.out⟩

end Go.Proofs.Ythihemfegjaenaa

end

section

namespace Go.Proofs.Ythihemfegjaenaa
open Go Ieee Go.RowKit
set_option linter.unusedVariables false
set_option linter.unusedSimpArgs false

def zcirc : Array Value := Array.replicate 64 (.complex .f32 0 0)
theorem circ_info : (Try.prog.info? 141).map (fun i => (i.zero, i.size)) = some (some (.agg zcirc), 64) := by kernel_rfl
theorem circ_zero : ∀ w, (zeroValue 141).run Try.prog w = .ok (.agg zcirc) w := (zero_of_info circ_info).1
theorem circ_size : (Try.prog.info? 141).map (·.size) = some 64 := (zero_of_info circ_info).2

theorem Blk.rowC {w : World} {g : Nat} {cs : Array Value} {e : TypeId} (h : Blk w g cs e) (ds : Array Value) : Blk (w.setRow g ds) g ds e := setRow_heap w g cs ds e (0, 0) h
theorem Blk.rowOtherC {w : World} {g j : Nat} {cs : Array Value} {e : TypeId} (h : Blk w g cs e) (hj : g ≠ j) (ds : Array Value) : Blk (w.setRow j ds) g cs e := (setRow_other w j g ds hj).trans h
theorem wpList_alloc_bigC {P : Program} {w : World} {ops : Array Oper} {rest : List Oper} {o : Oper} {a : Act} {Q : Exit → Act → World → Prop} (hgd : o.guard = none) (t : TypeId) (ho : o.op = .alloc t) (Z : Array Value) (hz : ∀ w, (zeroValue t).run P w = .ok (.agg Z) w)
    (h : wpList P ops Q rest (a.put o.dst (.pointer (some ⟨w.heap.size, 0, none⟩))) (w.alloc (.cells Z t))) : wpList P ops Q (o :: rest) a w := by
  refine wpList_plain hgd fun K hK => ?_
  unfold Oper.wp execOp
  simp only [ho, Instr.alloc, Sem.run_bind, hz, Result.andThen_ok, newVar, Value.cells]
  exact hK _ _ h

def tabC (way : Nat) (n : Nat) (k : Nat) : CC := phasorC (fop .mul .f64 (canon .f64 way) (fop .quo .f64 (canon .f64 (floatOfInt .f64 (k : Int))) (canon .f64 (floatOfInt .f64 (n : Int)))))

set_option maxHeartbeats 4000000 in
set_option maxRecDepth 100000 in
theorem implCircle1 (gw gc way n k : Nat) (w : World) (W : Blk w gw #[.float .f64 way] 114) (C : Blk w gc #[.int .i64 n] 2) (hk : k < 64) (hn : n ≤ 64) : Calls Try.prog 149 #[.int .i64 k, .pointer (some ⟨gw, 0, none⟩), .pointer (some ⟨gc, 0, none⟩)] w fun e w' => ∃ p q, e = .returned (.complex .f32 p q) ∧ canon .f32 p = (tabC way n k).1 ∧ canon .f32 q = (tabC way n k).2 ∧ p < 2 ^ 32 ∧ q < 2 ^ 32 ∧ Below w.heap.size w w' := by
  have tok1 : True := trivial; have tok2 : True := trivial; have HB : Hid (Below w.heap.size w w) := Lib.hid (Below.refl _ _)
  have k0 : (0 : Int) ≤ (k : Int) := Int.natCast_nonneg k; have n0 : (0 : Int) ≤ (n : Int) := Int.natCast_nonneg n
  obtain ⟨Wc, Wf⟩ := W.open; obtain ⟨Cc, Cf⟩ := C.open
  go_enter Try.func149, Try.ntmps149
  go_wp2_with (first | (have _t := tok1; refine wpList_arith rfl _ _ _ _ _ rfl rfl .f64 _ _ rfl rfl ?_; intro z1 nn1 hc hb_1; have H_1 := Lib.hid hc; clear hc _t tok1; replace hb_1 : z1 < 2 ^ 64 := hb_1; have q_ : Below w.heap.size w (w.drewN nn1) := below_drewN (Below.refl _ _) _; replace HB := Lib.hid (HB.out.trans (q_.mono HB.out.size)); clear q_; generalize w.drewN nn1 = v1 at *) | (have _t := tok2; refine wpList_arith rfl _ _ _ _ _ rfl rfl .f64 _ _ rfl rfl ?_; intro z2 nn2 hc hb_2; have H_2 := Lib.hid hc; clear hc _t tok2; replace hb_2 : z2 < 2 ^ 64 := hb_2; have q_ : Below v1.heap.size v1 (v1.drewN nn2) := below_drewN (Below.refl _ _) _; replace HB := Lib.hid (HB.out.trans (q_.mono HB.out.size)); clear q_; generalize v1.drewN nn2 = v2 at *) | (go_at_call 147; refine (implPhasor _ _ hb_2).mono ?_; rintro e v3 ⟨pa, pb, m9, rfl, hw, ha, hb, la, lb⟩; have H_a := Lib.hid ha; have H_b := Lib.hid hb; have la9 := la; have lb9 := lb; clear ha hb la lb; have q_ : Below v2.heap.size v2 v3 := (by rw [hw]; exact below_drewN (Below.refl _ _) _); replace HB := Lib.hid (HB.out.trans (q_.mono HB.out.size)); clear hw q_))
  go_ret
  have HP : phasorN z2 = tabC way n k := by rw [phasor_canon, H_2.out, H_1.out]; rfl
  rw [HP] at H_a H_b
  exact ⟨pa, pb, rfl, H_a.out, H_b.out, la9, lb9, HB.out⟩
set_option maxHeartbeats 4000000 in
set_option maxRecDepth 100000 in
theorem implCircleOf (n way : Nat) (w : World) (hn : n ≤ 64) : Calls Try.prog 133 #[.int .i64 n, .float .f64 way] w fun e w' => ∃ L, e = .returned (.agg (cvals L).toArray) ∧ ToC 64 (tabC way n) 64 L ∧ Below w.heap.size w w' := by
  have C := (Blk.new w #[.int .i64 n] 2).alloc (.cells #[.float .f64 way] 114)
  have W := Blk.new1 w (.cells #[.int .i64 n] 2) #[.float .f64 way] 114
  have R := Blk.new2 w (.cells #[.int .i64 n] 2) (.cells #[.float .f64 way] 114) zcirc 141
  replace C := C.alloc (.cells zcirc 141); replace W := W.alloc (.cells zcirc 141)
  have HB : Hid (Below w.heap.size w (((w.alloc (.cells #[.int .i64 n] 2)).alloc (.cells #[.float .f64 way] 114)).alloc (.cells zcirc 141))) := Lib.hid ((((Below.refl _ _).alloc (by simp <;> omega) _).alloc (by simp <;> omega) _).alloc (by simp <;> omega) _)
  go_enter Try.func133, Try.ntmps133
  go_upto_region 1 with (refine wpList_alloc_bigC rfl _ rfl zcirc circ_zero ?_)
  generalize (((w.alloc (.cells #[.int .i64 n] 2)).alloc (.cells #[.float .f64 way] 114)).alloc (.cells zcirc 141)) = u1 at *
  go_wp2_with fail
  refine (implListByC 64 149 #[] #[.pointer (some ⟨w.heap.size + 1, 0, none⟩), .pointer (some ⟨w.heap.size, 0, none⟩)] (tabC way n) _ (by omega) (by exact ⟨_, rfl, by kernel_rfl, by kernel_rfl⟩) (fun i hi w' hw' => implCircle1 _ _ way n i w' (W.later hw') (C.later hw') hi hn)).mono ?_
  rintro e u2 ⟨g, L, rfl, hg, hB, hT, q⟩
  have rlt := R.lt
  replace R := R.later q; replace HB := Lib.hid (HB.out.trans (q.mono HB.out.size)); clear q C W
  have HTT := Lib.hid hT; clear hT
  have hsz : (cvals L).toArray.size = 64 := by rw [List.size_toArray, cvals_length]; exact HTT.out.len
  have hone : (cvals L).toArray.all (·.oneCell') = true := by rw [Array.all_eq_true]; intro i hi; simp [cvals, Value.oneCell']
  have HS2 : Hid ((Try.prog.info? 141).map (·.size) = some (cvals L).toArray.size) := Lib.hid (by rw [hsz]; exact circ_size)
  have HS3 : Hid (zcirc.size = (cvals L).toArray.size) := Lib.hid (by rw [hsz]; rfl)
  have hat : ∀ w, (Instr.arrayAt 141 (.slice (some ⟨g, 0, none⟩) 64 64)).run Try.prog w = .ok (.pointer (some ⟨g, 0, none⟩)) w := fun w => by kernel_rfl
  have HA := Lib.hid hsz; clear hsz
  go_wp2_with (first
    | (refine wpList_load_row rfl _ _ rfl _ rfl 60 (cvals L).toArray (0, 0) _ hB Try.underlying141 rfl HS2.out ?_)
    | (refine wpList_store_row rfl _ _ _ rfl _ (cvals L).toArray rfl rfl 141 zcirc R HS2.out HS3.out hone ?_)
    | fail)
  refine bodyPost_ret (v := .agg (cvals L).toArray) (results_cell_row rfl _ _ (w.heap.size + 1 + 1) 141 (cvals L).toArray (0, 0) _ rfl (R.rowC _) Try.underlying141 rfl HS2.out) rfl ⟨L, rfl, HTT.out, below_setRow HB.out (by omega) _⟩

end Go.Proofs.Ythihemfegjaenaa

end

section

namespace Go.Proofs.Ythihemfegjaenaa
open Go Ieee Go.RowKit
set_option linter.unusedVariables false
set_option linter.unusedSimpArgs false

def sumC (xs : List Nat) (tab : Nat → CC) (n m : Nat) : Nat → CC
  | 0 => (canon .f32 0, canon .f32 0)
  | k + 1 => addCC (sumC xs tab n m k) (scaleC (tab (k * m % n)) (canon .f32 (xs.getD k 0)))
def specC (xs : List Nat) (n m : Nat) : CC := sumC xs (tabC 13830554455654793216 n) n m n

structure GotListC (B : Nat) (w w' : World) (m : List CC) (a : Option Addr) (y : List (Nat × Nat)) : Prop where
  o : OwnV w' B a (cvals y)
  s : IsC y m
  below : Below B w w'
def GaveTC (w : World) (b : Bool) (M : List CC) (r : Ending) (w' : World) : Prop :=
  ∃ (a : Option Addr) (c : Nat) (y : List (Nat × Nat)), r = .returned (.tuple #[.slice a y.length c, .bool b]) ∧ GotListC w.heap.size w w' (if b then M else []) a y
theorem gaveTC_no {w w' : World} {b : Bool} {M : List CC} (hb : b = false) (h : Below w.heap.size w w') : GaveTC w b M (.returned (.tuple #[.slice none 0 0, .bool false])) w' := by subst hb; exact ⟨none, 0, [], rfl, .inl ⟨rfl, rfl⟩, IsC.nil, h⟩
theorem gaveTC_yes {w w' : World} {N c : Nat} {a : Option Addr} {zs : List (Nat × Nat)} {G : Nat → CC} {b : Bool} (hb : b = true) (h1 : ToC N G N zs) (hN : N ≤ 64) (h4 : OwnV w' w.heap.size a (cvals zs)) (h : Below w.heap.size w w') : GaveTC w b (toldCC N G) (.returned (.tuple #[.slice a N c, .bool true])) w' := by
  subst hb; exact ⟨a, c, zs, by rw [h1.len], h4, h1.all hN, h⟩

theorem row_cellC {w : World} {g : Nat} {L : List (Nat × Nat)} {t : TypeId} {k : Nat} (h : Blk w g (cvals L).toArray t) (hk : k < L.length) : w.cell? ⟨g, k, none⟩ = some (.complex .f32 L[k].1 L[k].2) :=
  (h.open.1 k).trans (by rw [List.getElem?_toArray]; exact cvals_get hk)

set_option maxHeartbeats 8000000 in
set_option maxRecDepth 100000 in
theorem implAround1 (gl gf gc gn ba oa ca n m : Nat) (xs : List Nat) (L : List (Nat × Nat)) (tab : Nat → CC) (w : World) (X : Blk w gl #[.slice (some ⟨ba, oa, none⟩) n ca] 22) (G : Blk w gf #[.func (.func 106) #[] #[]] 121) (C : Blk w gc (cvals L).toArray 141) (N : Blk w gn #[.int .i64 n] 2) (ha : RowV w (some ⟨ba, oa, none⟩) (fvals xs)) (hx : xs.length = n) (hL : ToC 64 tab 64 L) (hm : m < n) (h64 : n ≤ 64) :
    Calls Try.prog 135 #[.int .i64 m, .pointer (some ⟨gl, 0, none⟩), .pointer (some ⟨gf, 0, none⟩), .pointer (some ⟨gc, 0, none⟩), .pointer (some ⟨gn, 0, none⟩)] w fun e w' => ∃ p q, e = .returned (.complex .f32 p q) ∧ canon .f32 p = (sumC xs tab n m n).1 ∧ canon .f32 q = (sumC xs tab n m n).2 ∧ p < 2 ^ 32 ∧ q < 2 ^ 32 ∧ Below w.heap.size w w' := by
  have m0 : (0 : Int) ≤ (m : Int) := Int.natCast_nonneg m
  have m1 : (m : Int) < 64 := by omega
  have n1 : (n : Int) ≤ 64 := by omega
  have n0 : (0 : Int) < (n : Int) := by omega
  have hz9 : ¬ n = 0 := by omega
  have HZ : Hid (canon .f32 0 = (sumC xs tab n m 0).1 ∧ canon .f32 0 = (sumC xs tab n m 0).2) := Lib.hid ⟨rfl, rfl⟩
  have HXL := Lib.hid hx; clear hx
  obtain ⟨Xc, Xf⟩ := X.open
  go_enter Try.func135, Try.ntmps135
  go_wp2
  go_loopw [7, 12] (fun sv iv wr => ∃ k a9 b9 : Nat, k ≤ n ∧ iv = .int .i64 k ∧ sv = .complex .f32 a9 b9 ∧ canon .f32 a9 = (sumC xs tab n m k).1 ∧ canon .f32 b9 = (sumC xs tab n m k).2 ∧ a9 < 2 ^ 32 ∧ b9 < 2 ^ 32 ∧ Below w.heap.size w wr) (fun _ iv _ => n - (intOf iv).toNat)
  case atStart => exact ⟨0, 0, 0, Nat.zero_le _, rfl, rfl, HZ.out.1, HZ.out.2, by decide, by decide, Below.refl _ _⟩
  case round =>
    obtain ⟨k, a9, b9, hk, rfl, rfl, hsa, hsb, la, lb, hb5⟩ := hrel
    have HB := Lib.hid hb5; have HA := Lib.hid hsa; have HBB := Lib.hid hsb; clear hsa hsb hb5 HZ Xc Xf
    by_cases hlt : k < n
    · skip
      obtain ⟨ba', oa', e1, A0⟩ := row_cellN (ha.later HB.out) (show k < xs.length by rw [HXL.out]; exact hlt)
      cases e1
      have hki : (k : Int) < (n : Int) := by omega
      have k0 : (0 : Int) ≤ (k : Int) := Int.natCast_nonneg k
      obtain ⟨r, hr⟩ : ∃ r, r = k * m % n := ⟨_, rfl⟩
      have hrn : r < n := by rw [hr]; exact Nat.mod_lt _ (by omega)
      have hkm : k * m ≤ 64 * 64 := Nat.mul_le_mul (by omega) (by omega)
      obtain ⟨q, hq⟩ : ∃ q, q = k * m := ⟨_, rfl⟩
      have hw1 : IntKind.i64.wrap ((k : Int) * (m : Int)) = (q : Int) := by rw [← Int.natCast_mul, ← hq]; exact IntWalk.i64_in _ (by omega)
      have hw2 : ((q : Nat) : Int).tmod (n : Int) = (r : Int) := by rw [Int.tmod_eq_emod_of_nonneg (by omega), hr, hq]; exact (Int.natCast_emod _ _).symm
      have hw3 : ((n : Int) == 0) = false := by simp; omega
      have hw4 : IntKind.i64.wrap (r : Int) = (r : Int) := IntWalk.i64_in _ (by omega)
      have hrL : r < L.length := by rw [hL.len]; omega
      have HS : Hid (addCC (sumC xs tab n m k) (scaleC (canon .f32 L[r].1, canon .f32 L[r].2) (canon .f32 (xs.getD k 0))) = sumC xs tab n m (k + 1)) := Lib.hid (by rw [hL.num r hrL (by omega), hr]; rfl)
      have C0 := row_cellC (C.later HB.out) hrL
      have r0 : (0 : Int) ≤ (r : Int) := Int.natCast_nonneg r
      have r1 : (r : Int) < 64 := by omega
      generalize L[r].1 = p1 at *
      generalize L[r].2 = p2 at *
      generalize xs.getD k 0 = x at *
      clear hr hq hkm hrL
      go_upto_region 5 with (fail)
      have G2 := G.later HB.out; have N2 := N.later HB.out
      obtain ⟨Gc, Gf⟩ := G2.open; obtain ⟨Nc, Nf⟩ := N2.open
      have acx : ∀ w, (isAgg 60).run Try.prog w = .ok false w := fun w => by kernel_rfl
      have aint : ∀ w, (isAgg 2).run Try.prog w = .ok false w := fun w => by kernel_rfl
      have afun : ∀ w, (isAgg 121).run Try.prog w = .ok false w := fun w => by kernel_rfl
      refine wp_region_noPanic ?_
      refine wp_region_plan (Grows wr) 12 [(0, true), (1, true), (2, true), (3, true), (4, true), (5, true), (6, true), (7, true), (8, true), (9, true), (10, false), (11, false)] (by kernel_rfl) (by kernel_rfl) (fun _ _ _ _ _ h => h) (Grows.drew _) ?_
      (refine plan_plain rfl rfl ?_ ?_ ?_; rotate_left; focus (intro w9; go_simp <;> with_reducible rfl)); (simp only [Act.put, List.setIfInBounds_toArray, List.set_cons_zero, List.set_cons_succ])
      (refine plan_load rfl rfl (⟨gf, 0, none⟩) (by kernel_rfl) (.func (.func 106) #[] #[]) (load_cell afun (Gc 0)) ?_; simp only [Act.put, List.setIfInBounds_toArray, List.set_cons_zero, List.set_cons_succ])
      (refine plan_plain rfl rfl ?_ ?_ ?_; rotate_left; focus (intro w9; go_simp <;> with_reducible rfl)); (simp only [Act.put, List.setIfInBounds_toArray, List.set_cons_zero, List.set_cons_succ])
      (refine plan_plain rfl rfl ?_ ?_ ?_; rotate_left; focus (intro w9; go_simp <;> with_reducible rfl)); (simp only [Act.put, List.setIfInBounds_toArray, List.set_cons_zero, List.set_cons_succ])
      (refine plan_plain rfl rfl ?_ ?_ ?_; rotate_left; focus (intro w9; go_simp <;> with_reducible rfl)); (simp only [Act.put, List.setIfInBounds_toArray, List.set_cons_zero, List.set_cons_succ])
      (refine plan_load rfl rfl (⟨gn, 0, none⟩) (by kernel_rfl) (.int .i64 n) (load_cell aint (Nc 0)) ?_; simp only [Act.put, List.setIfInBounds_toArray, List.set_cons_zero, List.set_cons_succ])
      (refine plan_plain rfl rfl ?_ ?_ ?_; rotate_left; focus (intro w9; go_simp <;> with_reducible rfl)); (simp only [Act.put, List.setIfInBounds_toArray, List.set_cons_zero, List.set_cons_succ])
      (refine plan_plain rfl rfl ?_ ?_ ?_; rotate_left; focus (intro w9; go_simp <;> with_reducible rfl)); (simp only [Act.put, List.setIfInBounds_toArray, List.set_cons_zero, List.set_cons_succ])
      (refine plan_load rfl rfl (⟨gc, r, none⟩) (by kernel_rfl) (.complex .f32 p1 p2) (load_cell acx C0) ?_; simp only [Act.put, List.setIfInBounds_toArray, List.set_cons_zero, List.set_cons_succ])
      (refine plan_plain rfl rfl ?_ ?_ ?_; rotate_left; focus (intro w9; go_simp <;> with_reducible rfl)); (simp only [Act.put, List.setIfInBounds_toArray, List.set_cons_zero, List.set_cons_succ])
      have v0_ := Grows.drew wr
      generalize wr.drew = y0 at *
      refine plan_call rfl rfl 106 #[] #[] (by kernel_rfl) _ Try.func106 (by kernel_rfl) (by kernel_rfl) [.complex .f32 p1 p2, .float .f32 x] (by kernel_rfl) #[.complex .f32 p1 p2, .float .f32 x] (by simp) _ (implScaleC p1 p2 x y0) ?_
      rintro e y1 ⟨sa, sb, rfl, hsa, hsb, lsa, lsb, b⟩
      refine ⟨_, rfl, v0_.next b, ?_⟩
      simp only [Act.put, List.setIfInBounds_toArray, List.set_cons_zero, List.set_cons_succ]
      have v1_ := v0_.next b; have H_sa := Lib.hid hsa; have H_sb := Lib.hid hsb; clear hsa hsb b
      refine plan_cadd rfl rfl _ _ _ _ rfl a9 b9 sa sb (by kernel_rfl) (by kernel_rfl) ?_
      intro ta tb nn hta htb lta ltb
      have v2_ := v1_.next (show Below y1.heap.size y1 (y1.drewN nn) from below_drewN (Below.refl _ _) _)
      refine ⟨v2_, ?_⟩
      simp only [Act.put, List.setIfInBounds_toArray, List.set_cons_zero, List.set_cons_succ]
      have H_ta := Lib.hid hta; have H_tb := Lib.hid htb; clear hta htb
      generalize y1.drewN nn = y2 at *
      change wpList _ _ _ _ _ _
      simp only [List.drop_succ_cons, List.drop_zero]
      have HB4 := Lib.hid (HB.out.trans (Below.mono v2_ HB.out.size))
      clear v0_ v1_ v2_ Gc Gf Nc Nf A0 C0
      go_wp2_with fail
      refine NoPanic.normal ?_
      go_wp2
      go_roundw
      case rel => exact ⟨k + 1, ta, tb, by omega, by go_num, rfl, by rw [H_ta.out, H_sa.out, HA.out]; exact congrArg Prod.fst HS.out, by rw [H_tb.out, H_sb.out, HBB.out]; exact congrArg Prod.snd HS.out, lta, ltb, HB4.out⟩
      case measure => simp [intOf]; omega
    · skip
      obtain rfl : k = n := by omega
      go_wp2
      go_ret
      exact ⟨a9, b9, rfl, HA.out, HBB.out, la, lb, HB.out⟩

set_option maxHeartbeats 8000000 in
set_option maxRecDepth 100000 in
theorem implAround (ba oa ca n way : Nat) (xs : List Nat) (w : World) (ha : RowV w (some ⟨ba, oa, none⟩) (fvals xs)) (hx : xs.length = n) (n0 : 0 < n) (h64 : n ≤ 64) :
    Calls Try.prog 105 #[.slice (some ⟨ba, oa, none⟩) n ca, .float .f64 way, .func (.func 106) #[] #[]] w fun e w' => ∃ g L, e = .returned (.slice (some ⟨g, 0, none⟩) n n) ∧ OwnV w' w.heap.size (some ⟨g, 0, none⟩) (cvals L) ∧ ToC n (fun m => sumC xs (tabC way n) n m n) n L ∧ Below w.heap.size w w' := by
  have HXL := Lib.hid hx; clear hx
  have n64 : (n : Int) ≤ 64 := by omega
  have X := Blk.new w #[.slice (some ⟨ba, oa, none⟩) n ca] 22
  have G := Blk.new1 w (.cells #[.slice (some ⟨ba, oa, none⟩) n ca] 22) #[.func (.func 106) #[] #[]] 121
  replace X := X.alloc (.cells #[.func (.func 106) #[] #[]] 121)
  have HB : Hid (Below w.heap.size w ((w.alloc (.cells #[.slice (some ⟨ba, oa, none⟩) n ca] 22)).alloc (.cells #[.func (.func 106) #[] #[]] 121))) := Lib.hid (((Below.refl w.heap.size w).alloc (by simp <;> omega) _).alloc (by simp <;> omega) _)
  go_enter Try.func105, Try.ntmps105
  go_upto_region 1 with (fail)
  generalize ((w.alloc (.cells #[.slice (some ⟨ba, oa, none⟩) n ca] 22)).alloc (.cells #[.func (.func 106) #[] #[]] 121)) = u1 at *
  obtain ⟨Xc, Xf⟩ := X.open
  go_upto_region 2 with (fail)
  clear Xc Xf
  have lx := X.lt; have lg := G.lt; have szu := HB.out.size
  have N := Blk.new u1 #[.int .i64 n] 2
  have q := below_new u1 (.cells #[.int .i64 n] 2)
  replace X := X.later q
  replace G := G.later q
  replace HB := Lib.hid (HB.out.trans (q.mono HB.out.size))
  clear q
  obtain ⟨gn, hgn⟩ : ∃ gn, gn = u1.heap.size := ⟨_, rfl⟩
  rw [← hgn] at N
  (try simp only [← hgn])
  have ln := N.lt
  generalize u1.alloc (.cells #[.int .i64 n] 2) = u2 at *
  clear hgn
  obtain ⟨Nc, Nf⟩ := N.open
  go_wp2_with fail
  clear Nc Nf
  refine (implCircleOf n way _ h64).mono ?_
  rintro e u3 ⟨L, rfl, hT, q⟩
  have HTT := Lib.hid hT; clear hT
  have szq := q.size
  replace X := X.later q
  replace G := G.later q
  replace N := N.later q
  replace HB := Lib.hid (HB.out.trans (q.mono HB.out.size))
  clear q
  have hsz : (cvals L).toArray.size = 64 := by rw [List.size_toArray, cvals_length]; exact HTT.out.len
  have hone : (cvals L).toArray.all (·.oneCell') = true := by rw [Array.all_eq_true]; intro i hi; simp [cvals, Value.oneCell']
  have HS2 : Hid ((Try.prog.info? 141).map (·.size) = some (cvals L).toArray.size) := Lib.hid (by rw [hsz]; exact circ_size)
  have HS3 : Hid (zcirc.size = (cvals L).toArray.size) := Lib.hid (by rw [hsz]; rfl)
  clear hsz
  have NB := Blk.new u3 zcirc 141
  go_upto_region 3 with (first
    | (refine wpList_alloc_bigC rfl _ rfl zcirc circ_zero ?_; (try simp only [World.size_alloc]))
    | (refine wpList_store_row rfl _ _ _ rfl u3.heap.size (cvals L).toArray rfl rfl 141 zcirc NB HS2.out HS3.out hone ?_)
    | fail)
  have q : Below u3.heap.size u3 ((u3.alloc (.cells zcirc 141)).setRow u3.heap.size (cvals L).toArray) := below_setRow (below_new _ _) (Nat.le_refl _) _
  have C := NB.rowC (cvals L).toArray; clear NB
  replace X := X.later q
  replace G := G.later q
  replace N := N.later q
  replace HB := Lib.hid (HB.out.trans (q.mono HB.out.size))
  clear q
  obtain ⟨gc, hgc⟩ : ∃ gc, gc = u3.heap.size := ⟨_, rfl⟩
  generalize hU : ((u3.alloc (.cells zcirc 141)).setRow u3.heap.size (cvals L).toArray) = u4 at *
  rw [← hgc] at C
  (try simp only [← hgc])
  clear hU hgc
  obtain ⟨Nc, Nf⟩ := N.open
  go_wp2_with fail
  clear Nc Nf
  refine (implListByC n 135 #[] #[.pointer (some ⟨w.heap.size, 0, none⟩), .pointer (some ⟨w.heap.size + 1, 0, none⟩), .pointer (some ⟨gc, 0, none⟩), .pointer (some ⟨gn, 0, none⟩)] (fun m => sumC xs (tabC way n) n m n) _ h64 (by exact ⟨_, rfl, by kernel_rfl, by kernel_rfl⟩) (fun i hi w' hw' => implAround1 _ _ _ _ ba oa ca n i xs L (tabC way n) w' (X.later hw') (G.later hw') (C.later hw') (N.later hw') (ha.later (HB.out.trans (hw'.mono HB.out.size))) HXL.out HTT.out hi h64)).mono ?_
  rintro e w9 ⟨g, L2, rfl, hg, hO, hT2, q⟩
  have HT2 := Lib.hid hT2; clear hT2
  go_wp2
  go_ret
  exact ⟨g, L2, rfl, own_of_blkC hO (Nat.le_trans HB.out.size hg), HT2.out, HB.out.trans (q.mono HB.out.size)⟩

theorem implSpectrumOfL (ad : Option Addr) (ca : Nat) (xs : List Nat) (w : World) (hx : RowV w ad (fvals xs)) (qx : ∀ z ∈ xs, z < 2 ^ 32) (mx : xs.length ≤ maxLen) : Calls Try.prog 45 #[.slice ad xs.length ca] w (GaveTC w (lenB xs.length) (toldCC xs.length (specC xs xs.length))) := by
  rcases hl : lenB xs.length with _ | _
  · skip
    have HL := Lib.hid hl; clear hl
    go_enter Try.func45, Try.ntmps45
    go_wp2_with fail
    refine (implRecord _ _ _ _ mx).mono ?_
    rintro e w9 ⟨rfl, rfl⟩
    rw [HL.out]
    go_wp2
    go_ret2
    exact gaveTC_no rfl (Below.refl _ _)
  obtain ⟨l1, l2⟩ : 1 ≤ (xs.length : Int) ∧ (xs.length : Int) ≤ 64 := of_decide_eq_true hl
  obtain ⟨ba, oa, rfl, hz0⟩ := hx 0 _ (fvals_get (show 0 < xs.length by omega)); clear hz0
  have HL := Lib.hid hl; clear hl
  go_enter Try.func45, Try.ntmps45
  go_wp2_with fail
  refine (implRecord _ _ _ _ mx).mono ?_
  rintro e w9 ⟨rfl, rfl⟩
  rw [HL.out]
  go_wp2_with fail
  refine (implAround ba oa ca xs.length 13830554455654793216 xs _ hx rfl (by omega) (by omega)).mono ?_
  rintro e w9 ⟨g, L2, rfl, hO, hT2, q⟩
  have HT2 := Lib.hid hT2; have HO := Lib.hid hO; clear hT2 hO
  go_wp2
  go_ret2
  exact gaveTC_yes rfl HT2.out (by omega) HO.out q
end Go.Proofs.Ythihemfegjaenaa

end

section

namespace Go.Proofs.Ythihemfegjaenaa
open Go Ieee Go.RowKit
set_option linter.unusedVariables false
set_option linter.unusedSimpArgs false

theorem ang : ∀ n : Nat, n < 65 → ∀ r : Nat, r < n → fop .mul .f64 (canon .f64 13830554455654793216) (fop .quo .f64 (canon .f64 (floatOfInt .f64 (r : Int))) (canon .f64 (floatOfInt .f64 (n : Int)))) = (fop .quo .f64 (canon .f64 (floatOfInt .f64 (r : Int))) (canon .f64 (floatOfInt .f64 (n : Int)))).map (Op.negFloat .f64) := by decide +kernel

theorem tab_neg {n r z : Nat} (hn : n < 65) (hr : r < n) (hz : z < 2 ^ 64) (h : canon .f64 z = fop .quo .f64 (canon .f64 (floatOfInt .f64 (r : Int))) (canon .f64 (floatOfInt .f64 (n : Int)))) : phasorN (Op.negFloat .f64 z) = tabC 13830554455654793216 n r := by
  rw [phasor_canon, (neg_canon z hz).1, h]
  unfold tabC
  rw [ang n hn r hr]

/-- what a loop has appended so far, in memory of its own -/
def OutsC (w wr : World) (v : Value) (n : Nat) (zs : List (Nat × Nat)) : Prop := zs.length = n ∧ wr.ownsRow w.heap.size 60 1 v n (cvals zs) ∧ Below w.heap.size w wr

theorem outsC_start (w : World) : OutsC w (w.alloc (.cells #[] 60)) (.slice (some ⟨w.heap.size, 0, none⟩) 0 0) 0 [] :=
  ⟨rfl, World.ownsRow_made w #[] 0 (Nat.le_refl _) (by decide) rfl, (Below.refl _ _).alloc (Nat.le_refl _) _⟩

theorem outsC_next {w wr w1 : World} {v v' : Value} {n : Nat} {zs : List (Nat × Nat)} {z : Nat × Nat} {ob : Obj} (h : OutsC w wr v n zs) (ho : w1.ownsRow w.heap.size 60 1 v' (n + 1) (cvals zs ++ [.complex .f32 z.1 z.2])) (hg : (wr.alloc ob).grownBy w1 v.ownBlock) : OutsC w w1 v' (n + 1) (zs ++ [z]) := by
  refine ⟨by simp [h.1], ?_, ?_⟩
  · have e : cvals (zs ++ [z]) = cvals zs ++ [.complex .f32 z.1 z.2] := by unfold cvals; rw [List.map_append]; rfl
    rw [e]; exact ho
  · have hz := h.2.2.size
    exact (h.2.2.alloc hz ob).grown hg (by simp; omega) (fun k hk => (h.2.1.lt k hk).1)

theorem one_newsC (wr : World) (p q : Nat) : ∀ (j : Nat) (u : Value), [Value.complex .f32 p q][j]? = some u → (wr.alloc (.cells #[.complex .f32 p q] 60)).cell? ((⟨wr.heap.size, 0, none⟩ : Addr).add j) = some u := by
  intro j u hu
  cases j with
  | zero => simp at hu; subst hu; exact (Blk.new wr #[.complex .f32 p q] 60).open.1 0
  | succ j => simp at hu

theorem one_cellsC (p q : Nat) : ∀ u ∈ [Value.complex .f32 p q], u.oneCell' = true := by
  intro u hu; simp at hu; subst hu; rfl

theorem outsC_later {w wr w1 : World} {v : Value} {n : Nat} {zs : List (Nat × Nat)} (h : OutsC w wr v n zs) (b : Below wr.heap.size wr w1) : OutsC w w1 v n zs := by
  refine ⟨h.1, ⟨h.2.1.1, ?_⟩, h.2.2.trans (b.mono h.2.2.size)⟩
  rcases h.2.1.2 with h0 | ⟨g, cap, cur, hv, hg, hh, r⟩
  · exact .inl h0
  · exact .inr ⟨g, cap, cur, hv, hg, (b.block g (Array.getElem?_eq_some_iff.1 hh).1).trans hh, r⟩
theorem outsC_end {w wr : World} {v : Value} {n : Nat} {zs : List (Nat × Nat)} (h : OutsC w wr v n zs) : ∃ a c, v = .slice a n c ∧ OwnV wr w.heap.size a (cvals zs) ∧ Below w.heap.size w wr := by
  rcases h.2.1.2 with ⟨hv, h0⟩ | ⟨g, cap, cur, hv, _⟩
  · subst hv; subst h0
    exact ⟨none, 0, rfl, OwnV.of_owned h.2.1, h.2.2⟩
  · subst hv
    exact ⟨_, cap, rfl, OwnV.of_owned h.2.1, h.2.2⟩

section
variable {P : Program} {ops : Array Oper} {Q : Exit → Act → World → Prop} {S : World → Prop} {K : Act → World → Prop} {i : Nat} {r : List (Nat × Bool)} {a : Act} {w : World}
theorem plan_arith {o : Oper} (h0 : ops[i]? = some o) (hg : o.guard = none) (op : BinOp) (t t2 : TypeId) (x y : Operand) (ho : o.op = .binOp op t x y t2) (hop : isArith op = true) (k : FloatKind) (p q : Nat) (hx : a.eval x = .float k p) (hy : a.eval y = .float k q)
    (h : ∀ v n, canon k v = fop op k (canon k p) (canon k q) → v < 2 ^ k.format.width → S (w.drewN n) ∧ planWalk P ops S Q K r (a.put o.dst (.float k v)) (w.drewN n)) : planWalk P ops S Q K ((i, false) :: r) a w := by
  refine ⟨_, h0, ?_⟩
  refine wpList_arith hg op t t2 x y ho hop k p q hx hy ?_
  intro v n h1 h2
  exact h v n h1 h2
end

set_option maxHeartbeats 8000000 in
set_option maxRecDepth 100000 in
theorem specSpectrumOfL (ad : Option Addr) (ca : Nat) (xs : List Nat) (w : World) (hx : RowV w ad (fvals xs)) (qx : ∀ z ∈ xs, z < 2 ^ 32) (mx : xs.length ≤ maxLen) : Calls Try.prog 44 #[.slice ad xs.length ca] w (GaveTC w (lenB xs.length) (toldCC xs.length (specC xs xs.length))) := by
  obtain ⟨ti, hi0, hz0, hz1, hz2⟩ := info_parts Try.infoC64
  have HI := Lib.hid hi0; have HZ0 := Lib.hid hz0; have HZ1 := Lib.hid hz1; have HZ2 := Lib.hid hz2; clear hi0 hz0 hz1 hz2
  unfold maxLen at mx
  rcases hl : lenB xs.length with _ | _
  · skip
    have HL := Lib.hid hl; clear hl
    go_enter Try.func44, Try.ntmps44
    go_wp2_with fail
    refine (specRecord _ _ _ _ (by unfold maxLen; omega)).mono ?_
    rintro e w9 ⟨rfl, rfl⟩
    rw [HL.out]
    go_wp2
    go_ret2
    exact gaveTC_no rfl (Below.refl _ _)
  obtain ⟨l1, l2⟩ : 1 ≤ (xs.length : Int) ∧ (xs.length : Int) ≤ 64 := of_decide_eq_true hl
  obtain ⟨ba, oa, rfl, hz0⟩ := hx 0 _ (fvals_get (show 0 < xs.length by omega)); clear hz0
  generalize hn : xs.length = n at *
  have HN := Lib.hid hn; clear hn
  have HL := Lib.hid hl; clear hl
  have hz9 : ¬ n = 0 := by omega
  have hw3 : ((n : Int) == 0) = false := by simp; omega
  have OS := Lib.hid (outsC_start w)
  have HT0 : Hid (ToC 0 (specC xs n) 0 []) := Lib.hid ⟨rfl, (by intro z hz; cases hz), (by intro j hj; exact absurd hj (by simp))⟩
  have HSZ : Hid (∀ m, canon .f32 0 = (sumC xs (tabC 13830554455654793216 n) n m 0).1 ∧ canon .f32 0 = (sumC xs (tabC 13830554455654793216 n) n m 0).2) := Lib.hid (fun m => ⟨rfl, rfl⟩)
  go_enter Try.func44, Try.ntmps44
  go_wp2_with fail
  refine (specRecord _ _ _ _ (by unfold maxLen; omega)).mono ?_
  rintro e w9 ⟨rfl, rfl⟩
  rw [HL.out]
  go_wp2
  go_loopw [5, 6] (fun vv iv wr => ∃ (m : Nat) (zs : List (Nat × Nat)), m ≤ n ∧ iv = .int .i64 m ∧ OutsC w wr vv m zs ∧ ToC m (specC xs n) m zs) (fun _ iv _ => n - (intOf iv).toNat)
  case atStart => exact ⟨0, [], Nat.zero_le _, rfl, OS.out, HT0.out⟩
  case round =>
    obtain ⟨m, zs, hm, rfl, hout, htc⟩ := hrel
    have HO := Lib.hid hout; have HTC := Lib.hid htc; clear hout htc OS HT0
    by_cases hmt : m < n
    · skip
      have hmi : (m : Int) < (n : Int) := by omega
      have m0 : (0 : Int) ≤ (m : Int) := Int.natCast_nonneg m
      obtain ⟨w1, rfl⟩ : ∃ z : World, z = wr := ⟨wr, rfl⟩
      go_wp2
      go_loopw [7, 8] (fun sv iv wr => ∃ k a9 b9 : Nat, k ≤ n ∧ iv = .int .i64 k ∧ sv = .complex .f32 a9 b9 ∧ canon .f32 a9 = (sumC xs (tabC 13830554455654793216 n) n m k).1 ∧ canon .f32 b9 = (sumC xs (tabC 13830554455654793216 n) n m k).2 ∧ a9 < 2 ^ 32 ∧ b9 < 2 ^ 32 ∧ Below w1.heap.size w1 wr) (fun _ iv _ => n - (intOf iv).toNat)
      case atStart => exact ⟨0, 0, 0, Nat.zero_le _, rfl, rfl, (HSZ.out m).1, (HSZ.out m).2, by decide, by decide, Below.refl _ _⟩
      case round =>
        obtain ⟨k, a9, b9, hk, rfl, rfl, hsa, hsb, la, lb, hb5⟩ := hrel
        have HB := Lib.hid hb5; have HA := Lib.hid hsa; have HBB := Lib.hid hsb; clear hsa hsb hb5
        by_cases hlt : k < n
        · skip
          obtain ⟨ba', oa', e1, A0⟩ := row_cellN (hx.later (HO.out.2.2.trans (HB.out.mono HO.out.2.2.size))) (show k < xs.length by rw [HN.out]; exact hlt)
          cases e1
          have hki : (k : Int) < (n : Int) := by omega
          have k0 : (0 : Int) ≤ (k : Int) := Int.natCast_nonneg k
          obtain ⟨r, hr⟩ : ∃ r, r = k * m % n := ⟨_, rfl⟩
          have hrn : r < n := by rw [hr]; exact Nat.mod_lt _ (by omega)
          have hkm : k * m ≤ 64 * 64 := Nat.mul_le_mul (by omega) (by omega)
          obtain ⟨q, hq⟩ : ∃ q, q = k * m := ⟨_, rfl⟩
          have hw1 : IntKind.i64.wrap ((k : Int) * (m : Int)) = (q : Int) := by rw [← Int.natCast_mul, ← hq]; exact IntWalk.i64_in _ (by omega)
          have hw2 : ((q : Nat) : Int).tmod (n : Int) = (r : Int) := by rw [Int.tmod_eq_emod_of_nonneg (by omega), hr, hq]; exact (Int.natCast_emod _ _).symm
          have hw4 : IntKind.i64.wrap (r : Int) = (r : Int) := IntWalk.i64_in _ (by omega)
          have HS : Hid (addCC (sumC xs (tabC 13830554455654793216 n) n m k) (scaleC (tabC 13830554455654793216 n r) (canon .f32 (xs.getD k 0))) = sumC xs (tabC 13830554455654793216 n) n m (k + 1)) := Lib.hid (by rw [hr]; rfl)
          have HTN : Hid (∀ z, z < 2 ^ 64 → canon .f64 z = fop .quo .f64 (canon .f64 (floatOfInt .f64 (r : Int))) (canon .f64 (floatOfInt .f64 (n : Int))) → phasorN (Op.negFloat .f64 z) = tabC 13830554455654793216 n r) := Lib.hid (fun z hz h => tab_neg (by omega) hrn hz h)
          generalize xs.getD k 0 = x at *
          clear hr hq hkm
          go_upto_region 12 with (fail)
          have aflt : ∀ w, (isAgg 36).run Try.prog w = .ok false w := fun w => by kernel_rfl
          refine wp_region_noPanic ?_
          refine wp_region_plan (Grows wr) 18 [(0, true), (1, true), (2, true), (3, true), (4, true), (5, true), (6, true), (7, true), (8, true), (12, true), (13, true), (14, true), (15, true), (9, false), (10, true), (11, false), (16, false), (17, false)] (by kernel_rfl) (by kernel_rfl) (fun _ _ _ _ _ h => h) (Grows.drew _) ?_
          (refine plan_plain rfl rfl ?_ ?_ ?_; rotate_left; focus (intro w9; go_simp <;> with_reducible rfl)); (simp only [Act.put, List.getElem_toArray, List.getElem_cons_zero, List.getElem_cons_succ, List.setIfInBounds_toArray, List.set_cons_zero, List.set_cons_succ])
          (refine plan_plain rfl rfl ?_ ?_ ?_; rotate_left; focus (intro w9; go_simp <;> with_reducible rfl)); (simp only [Act.put, List.getElem_toArray, List.getElem_cons_zero, List.getElem_cons_succ, List.setIfInBounds_toArray, List.set_cons_zero, List.set_cons_succ])
          (refine plan_plain rfl rfl ?_ ?_ ?_; rotate_left; focus (intro w9; go_simp <;> with_reducible rfl)); (simp only [Act.put, List.getElem_toArray, List.getElem_cons_zero, List.getElem_cons_succ, List.setIfInBounds_toArray, List.set_cons_zero, List.set_cons_succ])
          (refine plan_plain rfl rfl ?_ ?_ ?_; rotate_left; focus (intro w9; go_simp <;> with_reducible rfl)); (simp only [Act.put, List.getElem_toArray, List.getElem_cons_zero, List.getElem_cons_succ, List.setIfInBounds_toArray, List.set_cons_zero, List.set_cons_succ])
          (refine plan_plain rfl rfl ?_ ?_ ?_; rotate_left; focus (intro w9; go_simp <;> with_reducible rfl)); (simp only [Act.put, List.getElem_toArray, List.getElem_cons_zero, List.getElem_cons_succ, List.setIfInBounds_toArray, List.set_cons_zero, List.set_cons_succ])
          (refine plan_plain rfl rfl ?_ ?_ ?_; rotate_left; focus (intro w9; go_simp <;> with_reducible rfl)); (simp only [Act.put, List.getElem_toArray, List.getElem_cons_zero, List.getElem_cons_succ, List.setIfInBounds_toArray, List.set_cons_zero, List.set_cons_succ])
          (refine plan_plain rfl rfl ?_ ?_ ?_; rotate_left; focus (intro w9; go_simp <;> with_reducible rfl)); (simp only [Act.put, List.getElem_toArray, List.getElem_cons_zero, List.getElem_cons_succ, List.setIfInBounds_toArray, List.set_cons_zero, List.set_cons_succ])
          (refine plan_plain rfl rfl ?_ ?_ ?_; rotate_left; focus (intro w9; go_simp <;> with_reducible rfl)); (simp only [Act.put, List.getElem_toArray, List.getElem_cons_zero, List.getElem_cons_succ, List.setIfInBounds_toArray, List.set_cons_zero, List.set_cons_succ])
          (refine plan_plain rfl rfl ?_ ?_ ?_; rotate_left; focus (intro w9; go_simp <;> with_reducible rfl)); (simp only [Act.put, List.getElem_toArray, List.getElem_cons_zero, List.getElem_cons_succ, List.setIfInBounds_toArray, List.set_cons_zero, List.set_cons_succ])
          (refine plan_plain rfl rfl ?_ ?_ ?_; rotate_left; focus (intro w9; go_simp <;> with_reducible rfl)); (simp only [Act.put, List.getElem_toArray, List.getElem_cons_zero, List.getElem_cons_succ, List.setIfInBounds_toArray, List.set_cons_zero, List.set_cons_succ])
          (refine plan_plain rfl rfl ?_ ?_ ?_; rotate_left; focus (intro w9; go_simp <;> with_reducible rfl)); (simp only [Act.put, List.getElem_toArray, List.getElem_cons_zero, List.getElem_cons_succ, List.setIfInBounds_toArray, List.set_cons_zero, List.set_cons_succ])
          (refine plan_plain rfl rfl ?_ ?_ ?_; rotate_left; focus (intro w9; go_simp <;> with_reducible rfl)); (simp only [Act.put, List.getElem_toArray, List.getElem_cons_zero, List.getElem_cons_succ, List.setIfInBounds_toArray, List.set_cons_zero, List.set_cons_succ])
          (refine plan_load rfl rfl (⟨ba, oa + k, none⟩) (by kernel_rfl) (.float .f32 x) (load_cell aflt A0) ?_; simp only [Act.put, List.getElem_toArray, List.getElem_cons_zero, List.getElem_cons_succ, List.setIfInBounds_toArray, List.set_cons_zero, List.set_cons_succ])
          have v0_ := Grows.drew wr
          generalize wr.drew = y0 at *
          refine plan_arith rfl rfl .quo _ _ _ _ rfl rfl .f64 (floatOfInt .f64 (r : Int)) (floatOfInt .f64 (n : Int)) (by kernel_rfl) (by kernel_rfl) ?_
          intro z nz hz hzl
          replace hzl : z < 2 ^ 64 := hzl
          have v1_ := v0_.next (show Below y0.heap.size y0 (y0.drewN nz) from below_drewN (Below.refl _ _) _)
          refine ⟨v1_, ?_⟩
          simp only [Act.put, List.getElem_toArray, List.getElem_cons_zero, List.getElem_cons_succ, List.setIfInBounds_toArray, List.set_cons_zero, List.set_cons_succ]
          have HP := Lib.hid (HTN.out z hzl hz); clear hz HTN
          generalize y0.drewN nz = y1 at *
          (refine plan_plain rfl rfl ?_ ?_ ?_; rotate_left; focus (intro w9; go_simp <;> with_reducible rfl)); (simp only [Act.put, List.getElem_toArray, List.getElem_cons_zero, List.getElem_cons_succ, List.setIfInBounds_toArray, List.set_cons_zero, List.set_cons_succ])
          refine plan_call rfl rfl 104 #[] #[] rfl _ Try.func104 (by kernel_rfl) (by kernel_rfl) [.float .f64 (Op.negFloat .f64 z)] (by kernel_rfl) #[.float .f64 (Op.negFloat .f64 z)] (by simp) _ (specPhasor (Op.negFloat .f64 z) y1) ?_
          rintro e y2 ⟨pa, pb, m9, rfl, hw, hpa, hpb, lpa, lpb⟩
          refine ⟨_, rfl, v1_.next (by rw [hw]; exact below_drewN (Below.refl _ _) _), ?_⟩
          simp only [Act.put, List.getElem_toArray, List.getElem_cons_zero, List.getElem_cons_succ, List.setIfInBounds_toArray, List.set_cons_zero, List.set_cons_succ]
          have v2_ := v1_.next (show Below y1.heap.size y1 y2 by rw [hw]; exact below_drewN (Below.refl _ _) _); rw [HP.out] at hpa hpb; have H_a := Lib.hid hpa; have H_b := Lib.hid hpb; clear hpa hpb lpa lpb hw
          refine plan_call rfl rfl 103 #[] #[] rfl _ Try.func103 (by kernel_rfl) (by kernel_rfl) [.complex .f32 pa pb, .float .f32 x] (by kernel_rfl) #[.complex .f32 pa pb, .float .f32 x] (by simp) _ (specScaleC pa pb x y2) ?_
          rintro e y3 ⟨sa, sb, rfl, hsa, hsb, lsa, lsb, b⟩
          refine ⟨_, rfl, v2_.next b, ?_⟩
          simp only [Act.put, List.getElem_toArray, List.getElem_cons_zero, List.getElem_cons_succ, List.setIfInBounds_toArray, List.set_cons_zero, List.set_cons_succ]
          have v3_ := v2_.next b; have H_sa := Lib.hid hsa; have H_sb := Lib.hid hsb; clear hsa hsb b
          refine plan_cadd rfl rfl _ _ _ _ rfl a9 b9 sa sb (by kernel_rfl) (by kernel_rfl) ?_
          intro ta tb nn hta htb lta ltb
          have v4_ := v3_.next (show Below y3.heap.size y3 (y3.drewN nn) from below_drewN (Below.refl _ _) _)
          refine ⟨v4_, ?_⟩
          simp only [Act.put, List.getElem_toArray, List.getElem_cons_zero, List.getElem_cons_succ, List.setIfInBounds_toArray, List.set_cons_zero, List.set_cons_succ]
          have H_ta := Lib.hid hta; have H_tb := Lib.hid htb; clear hta htb
          generalize y3.drewN nn = y4 at *
          change wpList _ _ _ _ _ _
          simp only [List.drop_succ_cons, List.drop_zero]
          have HB4 := Lib.hid (HB.out.trans (Below.mono v4_ HB.out.size))
          clear v0_ v1_ v2_ v3_ v4_ A0
          go_wp2_with fail
          refine NoPanic.normal ?_
          go_wp2
          go_roundw
          case rel => exact ⟨k + 1, ta, tb, by omega, by go_num, rfl, by rw [H_ta.out, H_sa.out, HA.out, H_a.out, H_b.out]; exact congrArg Prod.fst HS.out, by rw [H_tb.out, H_sb.out, HBB.out, H_a.out, H_b.out]; exact congrArg Prod.snd HS.out, lta, ltb, HB4.out⟩
          case measure => simp [intOf]; omega
        · skip
          obtain rfl : k = n := by omega
          replace HO := Lib.hid (outsC_later HO.out HB.out)
          have hown := HO.out.2.1
          go_wp2_with (at_builtin; refine wpList_append_own _ rfl _ _ 66 rfl w.heap.size 60 ti (.complex .f32 0 0) 1 8 Try.underlying66 HI.out HZ0.out HZ1.out HZ2.out rfl (by decide) _ _ _ rfl (hown.alloc _) ⟨wr.heap.size, 0, none⟩ 1 1 [.complex .f32 a9 b9] rfl rfl (one_newsC _ _ _) (one_cellsC _ _) (by unfold maxLen; omega) (by omega) (by have := HO.out.2.2.size; simp; omega) ?_; intro v' w9 hown' hgrow _)
          have HO2 := Lib.hid (outsC_next (z := (a9, b9)) HO.out hown' hgrow); clear hown hown' hgrow
          have HT2 := Lib.hid (HTC.out.snoc la lb HA.out HBB.out)
          go_wp2
          go_roundw
          case rel => exact ⟨m + 1, _, by omega, by go_num, HO2.out, HT2.out⟩
          case measure => simp [intOf]; omega
    · skip
      obtain rfl : m = n := by omega
      obtain ⟨a9, c9, rfl, hown, hb⟩ := outsC_end HO.out
      have HW := Lib.hid hown; clear hown
      go_wp2
      go_ret2
      exact gaveTC_yes rfl HTC.out (by omega) HW.out hb
end Go.Proofs.Ythihemfegjaenaa

end
