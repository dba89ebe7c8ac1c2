/- Several texts in one: facts on floats, lists, memory and the functions that the theorems beside this text use. Conditions: none beyond those of each theorem. -/
import Derived.Test.YtagjlfnlbfgfaaaBu2
import Derived.Test.YtagjlfnlbfgfaaaBu5
import Derived.Test.YtagjlfnlbfgfaaaBu4

set_option linter.unusedVariables false

section

namespace Go.Proofs.Ytagjlfnlbfgfaaa
open Go Ieee Go.RowKit
set_option linter.unusedVariables false

/-- the cells of a list of pairs -/
def pvals (ps : List (Int × Int)) : List Value := ps.flatMap fun p => [.int .i64 p.1, .int .i64 p.2]

theorem pvals_length (ps : List (Int × Int)) : (pvals ps).length = ps.length * 2 := by
  induction ps with
  | nil => rfl
  | cons p ps ih => 
    show ((Value.int .i64 p.1) :: (.int .i64 p.2) :: pvals ps).length = _
    simp only [List.length_cons, ih]; omega

theorem pvals_get {ps : List (Int × Int)} {k : Nat} (h : k < ps.length) : (pvals ps)[k * 2]? = some (.int .i64 ps[k].1) ∧ (pvals ps)[k * 2 + 1]? = some (.int .i64 ps[k].2) := by
  induction ps generalizing k with
  | nil => simp at h
  | cons p ps ih =>
    cases k with
    | zero => exact ⟨rfl, rfl⟩
    | succ k =>
      have hk : k < ps.length := by simpa using h
      have e : pvals (p :: ps) = .int .i64 p.1 :: .int .i64 p.2 :: pvals ps := rfl
      rw [e, show (k + 1) * 2 = k * 2 + 1 + 1 by omega]
      simpa using ih hk

/-- a list behind i cells: what was copied, and what stood there -/
def partL (vs zs : List Value) (i : Nat) : List Value := vs.take i ++ zs.drop i
theorem partL_zero (vs zs : List Value) : partL vs zs 0 = zs := by simp [partL]
theorem partL_all {vs zs : List Value} (h : zs.length = vs.length) : partL vs zs vs.length = vs := by unfold partL; rw [List.take_of_length_le (Nat.le_refl _), List.drop_eq_nil_of_le (by omega), List.append_nil]
theorem partL_length {vs zs : List Value} (h : zs.length = vs.length) {i : Nat} (hi : i ≤ vs.length) : (partL vs zs i).length = vs.length := by simp [partL]; omega
theorem partL_set {vs zs : List Value} (h : zs.length = vs.length) {i : Nat} {u : Value} (hu : vs[i]? = some u) : (partL vs zs i).set i u = partL vs zs (i + 1) := by
  have hi : i < vs.length := (List.getElem?_eq_some_iff.1 hu).1
  apply List.ext_getElem?
  intro j
  rw [List.getElem?_set, partL_length h (by omega)]
  unfold partL
  by_cases hj : i = j
  · subst hj
    rw [if_pos rfl, if_pos hi, List.getElem?_append_left (by simp; omega), List.getElem?_take, if_pos (by omega), hu]
  · rw [if_neg hj]
    by_cases h2 : j < i
    · rw [List.getElem?_append_left (by simp; omega), List.getElem?_append_left (by simp; omega), List.getElem?_take, List.getElem?_take, if_pos h2, if_pos (by omega)]
    · rw [List.getElem?_append_right (by simp; omega), List.getElem?_append_right (by simp; omega)]
      simp only [List.length_take, List.getElem?_drop]
      congr 1
      omega

theorem OwnV.of_owned2 {w : World} {B s : Nat} {a : Option Addr} {vs : List Value} {e : TypeId} {n cap : Nat} (h : w.ownsRow B e s (.slice a n cap) n vs) : OwnV w B a vs := by
  rcases h.2 with ⟨h', hn⟩ | ⟨g, cap', cur, h', hg, hh, _, _, _, ht⟩
  · simp only [Value.slice.injEq] at h'
    refine .inl ⟨h'.1, ?_⟩
    have := h.1
    rw [hn] at this
    exact List.eq_nil_of_length_eq_zero (by simpa using this)
  · simp only [Value.slice.injEq] at h'
    refine .inr ⟨g, cur, e, h'.1, hg, hh, fun i u hu => ?_⟩
    rw [← ht, List.getElem?_take] at hu
    split at hu
    · simpa using hu
    · cases hu

theorem Try.infoProbe : (Try.prog.info? 33).map (fun i => (i.zero, i.size, i.bytes)) = some (some (.agg #[.int .i64 0, .int .i64 0]), 2, 16) := by kernel_rfl

structure CopiedP (w w' : World) (ps : List (Int × Int)) (g : Nat) : Prop where
  o0 : OwnV w' w.heap.size (some ⟨g, 0, none⟩) (pvals ps)
  below : Below w.heap.size w w'
  lt : w.heap.size < w'.heap.size

theorem keep0c4_start {u : World} {p0 p1 p2 p3 : Addr} {v0 v1 v2 v3 : Value} (y0 : u.cell? p0 = some v0) (y1 : u.cell? p1 = some v1) (y2 : u.cell? p2 = some v2) (y3 : u.cell? p3 = some v3) : u.drew.cell? p0 = some v0 ∧ u.drew.cell? p1 = some v1 ∧ u.drew.cell? p2 = some v2 ∧ u.drew.cell? p3 = some v3 ∧ Below u.heap.size u u.drew :=
  ⟨y0, y1, y2, y3, (Below.refl _ _).drew⟩

theorem keep0c4_later {u w' w'' : World} {p0 p1 p2 p3 : Addr} {v0 v1 v2 v3 : Value} (y0 : u.cell? p0 = some v0) (y1 : u.cell? p1 = some v1) (y2 : u.cell? p2 = some v2) (y3 : u.cell? p3 = some v3) (h : w'.cell? p0 = some v0 ∧ w'.cell? p1 = some v1 ∧ w'.cell? p2 = some v2 ∧ w'.cell? p3 = some v3 ∧ Below u.heap.size u w') (b : Below w'.heap.size w' w'') : w''.cell? p0 = some v0 ∧ w''.cell? p1 = some v1 ∧ w''.cell? p2 = some v2 ∧ w''.cell? p3 = some v3 ∧ Below u.heap.size u w'' := by
  have B := h.2.2.2.2.trans (b.mono h.2.2.2.2.size)
  exact ⟨(cell_on y0 B), (cell_on y1 B), (cell_on y2 B), (cell_on y3 B), B⟩

end Go.Proofs.Ytagjlfnlbfgfaaa

end

section

namespace Go.Proofs.Ytagjlfnlbfgfaaa
open Go Ieee Go.RowKit
set_option linter.unusedVariables false

def probesB (wd hi : Int) (ps : List (Int × Int)) : Bool := decide (ps.length ≤ 8) && ps.all (fun p => cellB wd hi p.1 p.2)

theorem probes_long {wd hi : Int} {ps : List (Int × Int)} (h : ¬ ps.length ≤ 8) : probesB wd hi ps = false := by unfold probesB; rw [decide_eq_false h]; rfl
theorem probes_all {wd hi : Int} {ps : List (Int × Int)} (h : ps.length ≤ 8) (a : ∀ j (hj : j < ps.length), cellB wd hi ps[j].1 ps[j].2 = true) : probesB wd hi ps = true := by
  unfold probesB; rw [decide_eq_true h, all_of (p := fun p : Int × Int => cellB wd hi p.1 p.2) a]; rfl
theorem probes_not {wd hi : Int} {ps : List (Int × Int)} (k : Nat) (hk : k < ps.length) (h : cellB wd hi ps[k].1 ps[k].2 = false) : probesB wd hi ps = false := by
  unfold probesB; rw [not_all (p := fun p : Int × Int => cellB wd hi p.1 p.2) k hk h]; simp

theorem probePlace (x y : Int) (w : World) : Calls Try.prog 21 #[.agg #[.int .i64 x, .int .i64 y]] w fun e w' => e = .returned (.agg #[.int .i64 x, .int .i64 y]) ∧ Below w.heap.size w w' := by
  go_enter Try.func21, Try.ntmps21
  go_wp2
  refine bodyPost_ret (v := .agg #[.int .i64 x, .int .i64 y]) (by simp [results, Try.results21, go_sem]) rfl ⟨rfl, ?_⟩
  exact ((Below.refl w.heap.size w).alloc (Nat.le_refl _) _).alloc (by simp) _

set_option maxHeartbeats 4000000 in
set_option maxRecDepth 100000 in
theorem implAreProbes (wd hi : Int) (wb : Bool) (a b : Option Addr) (ca cb : Nat) (xs ys : List Nat) (p : Option Addr) (cp : Nat) (ps : List (Int × Int)) (w : World) (ha : RowV w a (fvals xs)) (hb : RowV w b (fvals ys)) (hx : xs.length ≤ maxLen) (hy : ys.length ≤ maxLen) (hp : RowV w p (pvals ps)) (hn : ps.length ≤ maxLen) :
    Calls Try.prog 9 #[.agg #[.int .i64 wd, .int .i64 hi, .bool wb, .slice a xs.length ca, .slice b ys.length cb], .slice p ps.length cp] w fun e w' => e = .returned (.bool (validB wd hi xs ys && probesB wd hi ps)) ∧ Below w.heap.size w w' := by
  rcases hv : validB wd hi xs ys with _ | _
  · skip
    have HV := Lib.hid hv; clear hv
    have X := Blk.new w #[.int .i64 wd, .int .i64 hi, .bool wb, .slice a xs.length ca, .slice b ys.length cb] 26
    have HB : Hid (Below w.heap.size w (w.alloc (.cells #[.int .i64 wd, .int .i64 hi, .bool wb, .slice a xs.length ca, .slice b ys.length cb] 26))) := Lib.hid ((Below.refl w.heap.size w).alloc (by simp <;> omega) _)
    go_enter Try.func9, Try.ntmps9
    go_wp2_with fail
    generalize (w.alloc (.cells #[.int .i64 wd, .int .i64 hi, .bool wb, .slice a xs.length ca, .slice b ys.length cb] 26)) = u1 at *
    refine (implValidSheet _ _ _ _ _ _ _ _ _ _ (ha.later HB.out) (hb.later HB.out) hx hy).mono ?_
    rintro r u2 ⟨rfl, q⟩
    replace X := X.later q
    replace HB := Lib.hid (HB.out.trans (q.mono HB.out.size))
    clear q
    rw [HV.out]
    obtain ⟨Xc, Xf⟩ := X.open
    go_wp2
    go_ret
    exact ⟨rfl, HB.out⟩
  obtain ⟨s1, s2, s3, s4, t1, t2⟩ := sides_mul (valid_sides hv)
  have HV := Lib.hid hv; clear hv t1 t2
  unfold maxLen at hn
  by_cases h8 : ps.length ≤ 8
  rotate_left
  · skip
    rw [probes_long h8]
    have h8b : (8 : Int) < (ps.length : Int) := by omega
    have X := Blk.new w #[.int .i64 wd, .int .i64 hi, .bool wb, .slice a xs.length ca, .slice b ys.length cb] 26
    have HB : Hid (Below w.heap.size w (w.alloc (.cells #[.int .i64 wd, .int .i64 hi, .bool wb, .slice a xs.length ca, .slice b ys.length cb] 26))) := Lib.hid ((Below.refl w.heap.size w).alloc (by simp <;> omega) _)
    go_enter Try.func9, Try.ntmps9
    go_wp2_with fail
    generalize (w.alloc (.cells #[.int .i64 wd, .int .i64 hi, .bool wb, .slice a xs.length ca, .slice b ys.length cb] 26)) = u1 at *
    refine (implValidSheet _ _ _ _ _ _ _ _ _ _ (ha.later HB.out) (hb.later HB.out) hx hy).mono ?_
    rintro r u2 ⟨rfl, q⟩
    replace X := X.later q
    replace HB := Lib.hid (HB.out.trans (q.mono HB.out.size))
    clear q
    rw [HV.out]
    obtain ⟨Xc, Xf⟩ := X.open
    go_wp2
    go_ret
    exact ⟨rfl, HB.out⟩
  have HT : Hid ((∀ j (hj : j < ps.length), cellB wd hi ps[j].1 ps[j].2 = true) → probesB wd hi ps = true) := Lib.hid (probes_all h8)
  have HF : Hid (∀ k, (hk : k < ps.length) → cellB wd hi ps[k].1 ps[k].2 = false → probesB wd hi ps = false) := Lib.hid (fun k hk h => probes_not k hk h)
  generalize probesB wd hi ps = rb at *
  generalize hlen : ps.length = n at hn h8 ⊢
  have HL := Lib.hid hlen; clear hlen
  have hn8 : (n : Int) ≤ 8 := by omega
  have X := Blk.new w #[.int .i64 wd, .int .i64 hi, .bool wb, .slice a xs.length ca, .slice b ys.length cb] 26
  have HB : Hid (Below w.heap.size w (w.alloc (.cells #[.int .i64 wd, .int .i64 hi, .bool wb, .slice a xs.length ca, .slice b ys.length cb] 26))) := Lib.hid ((Below.refl w.heap.size w).alloc (by simp <;> omega) _)
  go_enter Try.func9, Try.ntmps9
  go_wp2_with fail
  generalize (w.alloc (.cells #[.int .i64 wd, .int .i64 hi, .bool wb, .slice a xs.length ca, .slice b ys.length cb] 26)) = u1 at *
  refine (implValidSheet _ _ _ _ _ _ _ _ _ _ (ha.later HB.out) (hb.later HB.out) hx hy).mono ?_
  rintro r u2 ⟨rfl, q⟩
  replace X := X.later q
  replace HB := Lib.hid (HB.out.trans (q.mono HB.out.size))
  clear q
  rw [HV.out]
  obtain ⟨Xc, Xf⟩ := X.open
  go_wp2_with fail
  refine (implShapeOf _ _ _ _ _ _ _ _ _ _).mono ?_
  rintro r u3 ⟨rfl, q⟩
  clear Xc Xf
  replace X := X.later q
  replace HB := Lib.hid (HB.out.trans (q.mono HB.out.size))
  clear q
  have Z := Blk.new u3 #[.int .i64 wd, .int .i64 hi, .bool wb] 40
  have q := below_new u3 (.cells #[.int .i64 wd, .int .i64 hi, .bool wb] 40)
  replace X := X.later q
  replace HB := Lib.hid (HB.out.trans (q.mono HB.out.size))
  clear q
  obtain ⟨Zc, Zf⟩ := Z.open
  go_wp2_with fail
  generalize (u3.alloc (.cells #[.int .i64 wd, .int .i64 hi, .bool wb] 40)) = u4 at *
  have hzb : u3.heap.size < u4.heap.size := Z.lt
  go_loopw [7, 20] (fun _ i wr => ∃ k : Nat, k ≤ n ∧ i = .int .i64 k ∧ (∀ j (hj : j < ps.length), j < k → cellB wd hi ps[j].1 ps[j].2 = true) ∧ Below u4.heap.size u4 wr) (fun _ i _ => n - (intOf i).toNat)
  case atStart => exact ⟨0, Nat.zero_le _, rfl, fun j _ h => by omega, Below.refl _ _⟩
  case round =>
    obtain ⟨k, hk, rfl, hall, hbel⟩ := hrel
    have HA := Lib.hid hall; clear hall
    clear Zc Zf
    replace Z := Z.later hbel
    replace HB := Lib.hid (HB.out.trans (hbel.mono HB.out.size))
    by_cases hlt : k < n
    · skip
      have k1 : k < ps.length := by rw [HL.out]; exact hlt
      have hx9 := pvals_get k1
      obtain ⟨b1, o1, rfl, d0⟩ := hp _ _ hx9.1
      obtain ⟨b1', o1', e1', d1⟩ := hp _ _ hx9.2
      cases e1'
      have c0 : wr.cell? ⟨b1, o1 + k * 2, none⟩ = _ := (Below.cell HB.out (p := ⟨b1, o1 + k * 2, none⟩) (lt_of_cell d0)).trans d0
      have c1 : wr.cell? ⟨b1, o1 + k * 2 + 1, none⟩ = _ := (Below.cell HB.out (p := ⟨b1, o1 + (k * 2 + 1), none⟩) (lt_of_cell d1)).trans d1
      have hki : ((k : Nat) : Int) < (n : Int) := by omega
      have HNext : Hid (cellB wd hi ps[k].1 ps[k].2 = true → ∀ j (hj : j < ps.length), j < k + 1 → cellB wd hi ps[j].1 ps[j].2 = true) := Lib.hid (fun h j hj hjk => by
        by_cases e : j = k
        · subst e; exact h
        · exact HA.out j hj (by omega))
      have HStop : Hid (cellB wd hi ps[k].1 ps[k].2 = false → rb = false) := Lib.hid (HF.out k k1)
      clear hx9 d0 d1 HA
      generalize ps[k].1 = x at *
      generalize ps[k].2 = y at *
      have Y := Blk.new wr #[.int .i64 x, .int .i64 y] 33
      have q0 := below_new wr (.cells #[.int .i64 x, .int .i64 y] 33)
      replace Z := Z.later q0
      replace HB := Lib.hid (HB.out.trans (q0.mono HB.out.size))
      have hb2 := hbel.trans (q0.mono hbel.size)
      have HB2 := Lib.hid hb2; clear hb2 hbel q0
      rcases hc : cellB wd hi x y with _ | _
      · skip
        obtain rfl := HStop.out hc
        have HCX := Lib.hid hc; clear hc HNext HStop
        go_upto_region 7 with (fail)
        generalize wr.alloc (.cells #[.int .i64 x, .int .i64 y] 33) = v0 at *
        go_region_held3 (fun w' => (∀ i, w'.cell? ⟨u3.heap.size, i, none⟩ = (#[.int .i64 wd, .int .i64 hi, .bool wb] : Array Value)[i]?) ∧ (∀ i, w'.cell? ⟨wr.heap.size, i, none⟩ = (#[.int .i64 x, .int .i64 y] : Array Value)[i]?) ∧ Below v0.heap.size v0 w') (first | with_reducible exact keep2_start Z Y | with_reducible exact keep2_later Z Y (by assumption) (by assumption))
          (first | (go_at_call 21; (with_reducible refine (probePlace _ _ _).mono ?_); rintro r v1 ⟨rfl, qa⟩) | (go_at_call 13; (with_reducible refine (implHas _ _ _ _ _ _ s1 s2 s3 s4).mono ?_); rintro r v2 ⟨rfl, qb⟩))
        have q := (below_next (below_next (below_drew v0) qa) qb)
        clear qa qb
        replace HB := Lib.hid (HB.out.trans (q.mono HB.out.size))
        replace HB2 := Lib.hid (HB2.out.trans (q.mono HB2.out.size))
        rw [HCX.out]
        go_wp2
        go_ret
        exact ⟨rfl, HB.out⟩
      · skip
        have HN := Lib.hid (HNext.out hc)
        have HCX := Lib.hid hc; clear hc HNext HStop
        go_upto_region 7 with (fail)
        generalize wr.alloc (.cells #[.int .i64 x, .int .i64 y] 33) = v0 at *
        go_region_held3 (fun w' => (∀ i, w'.cell? ⟨u3.heap.size, i, none⟩ = (#[.int .i64 wd, .int .i64 hi, .bool wb] : Array Value)[i]?) ∧ (∀ i, w'.cell? ⟨wr.heap.size, i, none⟩ = (#[.int .i64 x, .int .i64 y] : Array Value)[i]?) ∧ Below v0.heap.size v0 w') (first | with_reducible exact keep2_start Z Y | with_reducible exact keep2_later Z Y (by assumption) (by assumption))
          (first | (go_at_call 21; (with_reducible refine (probePlace _ _ _).mono ?_); rintro r v1 ⟨rfl, qa⟩) | (go_at_call 13; (with_reducible refine (implHas _ _ _ _ _ _ s1 s2 s3 s4).mono ?_); rintro r v2 ⟨rfl, qb⟩))
        have q := (below_next (below_next (below_drew v0) qa) qb)
        clear qa qb
        replace HB := Lib.hid (HB.out.trans (q.mono HB.out.size))
        replace HB2 := Lib.hid (HB2.out.trans (q.mono HB2.out.size))
        rw [HCX.out]
        go_wp2
        go_roundw
        case rel => exact ⟨k + 1, by omega, by go_num, HN.out, HB2.out⟩
        case measure => simp [intOf]; omega
    · skip
      obtain rfl : k = n := by omega
      obtain rfl := HT.out (fun j hj => HA.out j hj (by rw [← HL.out]; exact hj))
      go_wp2
      go_ret
      exact ⟨rfl, HB.out⟩

end Go.Proofs.Ytagjlfnlbfgfaaa

end
