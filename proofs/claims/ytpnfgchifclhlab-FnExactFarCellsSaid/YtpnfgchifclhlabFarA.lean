/- Cells in which nothing is: the program's and the model's. Conditions: none beyond those of each theorem. -/
import Derived.Test.YtpnfgchifclhlabLstKit
import Derived.Test.YtpnfgchifclhlabHelpI
import Derived.Test.YtpnfgchifclhlabBu5
namespace Go.Proofs.Ytpnfgchifclhlab
open Go Ieee Go.RowKit
set_option linter.unusedVariables false

def zB (x : Nat) : Bool := FloatKind.f32.format.order x 0 == some .eq
def farB (e x y : List Nat) (i : Nat) : Bool := zB (e.getD i 0) && (zB (x.getD i 0) && zB (y.getD i 0))
def farL (e x y : List Nat) (k : Nat) : List Int := ((List.range k).filter (farB e x y)).map fun (i : Nat) => (i : Int)

theorem farL_zero (e x y : List Nat) : farL e x y 0 = [] := rfl
theorem farL_yes {e x y : List Nat} {k : Nat} (h : farB e x y k = true) : farL e x y (k + 1) = farL e x y k ++ [(k : Int)] := by
  unfold farL; rw [List.range_succ, List.filter_append, List.map_append]; simp [List.filter_cons, h]
theorem farL_no {e x y : List Nat} {k : Nat} (h : farB e x y k = false) : farL e x y (k + 1) = farL e x y k := by
  unfold farL; rw [List.range_succ, List.filter_append, List.map_append]; simp [List.filter_cons, h]
theorem farL_few (e x y : List Nat) (k : Nat) : (farL e x y k).length ≤ k := by
  unfold farL; rw [List.length_map]; have := List.length_filter_le (farB e x y) (List.range k); rw [List.length_range] at this; exact this

/-- what a loop has appended so far, integers -/
def OutsI (w wr : World) (v : Value) (zs : List Int) : Prop := wr.ownsRow w.heap.size 2 1 v zs.length (ivals zs) ∧ Below w.heap.size w wr

theorem outsI_nil {w wr : World} (h : Below w.heap.size w wr) : OutsI w wr (.slice none 0 0) [] := ⟨⟨rfl, .inl ⟨rfl, rfl⟩⟩, h⟩

theorem outsI_start {w wr : World} (h : Below w.heap.size w wr) : OutsI w (wr.alloc (.cells #[] 2)) (.slice (some ⟨wr.heap.size, 0, none⟩) 0 0) [] :=
  ⟨World.ownsRow_made wr #[] 0 h.size (by decide) rfl, h.alloc h.size _⟩

theorem outsI_next {w wr w1 : World} {v v' : Value} {zs : List Int} {z : Int} {ob : Obj} (h : OutsI w wr v zs) (ho : w1.ownsRow w.heap.size 2 1 v' (zs.length + 1) (ivals zs ++ [.int .i64 z])) (hg : (wr.alloc ob).grownBy w1 v.ownBlock) : OutsI w w1 v' (zs ++ [z]) := by
  refine ⟨?_, ?_⟩
  · have e : ivals (zs ++ [z]) = ivals zs ++ [.int .i64 z] := by unfold ivals; rw [List.map_append]; rfl
    rw [e, List.length_append]; exact ho
  · have hz := h.2.size
    exact (h.2.alloc hz ob).grown hg (by simp; omega) (fun k hk => (h.1.lt k hk).1)

theorem outsI_end {w wr : World} {v : Value} {zs : List Int} (h : OutsI w wr v zs) : ∃ a c, v = .slice a zs.length c ∧ OwnV wr w.heap.size a (ivals zs) ∧ Below w.heap.size w wr := by
  rcases h.1.2 with ⟨hv, h0⟩ | ⟨g, cap, cur, hv, _⟩
  · have : zs = [] := List.eq_nil_of_length_eq_zero h0
    subst this; subst hv
    exact ⟨none, 0, rfl, .inl ⟨rfl, rfl⟩, h.2⟩
  · subst hv
    exact ⟨_, cap, rfl, OwnV.of_owned h.1, h.2⟩

theorem oneI_news (wr : World) (z : Int) : ∀ (j : Nat) (u : Value), [Value.int .i64 z][j]? = some u → (wr.alloc (.cells #[.int .i64 z] 2)).cell? ((⟨wr.heap.size, 0, none⟩ : Addr).add j) = some u := by
  intro j u hu
  cases j with
  | zero => simp at hu; subst hu; exact (Blk.new wr #[.int .i64 z] 2).open.1 0
  | succ j => simp at hu

theorem oneI_cells (z : Int) : ∀ u ∈ [Value.int .i64 z], u.oneCell' = true := by
  intro u hu; simp at hu; subst hu; rfl

def GaveI (w : World) (b : Bool) (z : List Int) (r : Ending) (w' : World) : Prop :=
  ∃ (a : Option Addr) (c : Nat) (y : List Int), r = .returned (.tuple #[.slice a y.length c, .bool b]) ∧ GotInts w.heap.size w w' (if b then z else []) a y

set_option maxHeartbeats 4000000 in
theorem implFar (gf i n : Nat) (a0 a1 a2 : Option Addr) (c0 c1 c2 : Nat) (e x y : List Nat) (w : World) (hg : Blk w gf #[.slice a0 n c0, .slice a1 n c1, .slice a2 n c2] 34) (h0 : RowV w a0 (fvals e)) (h1 : RowV w a1 (fvals x)) (h2 : RowV w a2 (fvals y)) (l0 : e.length = n) (l1 : x.length = n) (l2 : y.length = n) (hi : i < n) (n256 : n ≤ 256) : Calls Try.prog 93 #[.int .i64 (i : Int), .pointer (some ⟨gf, 0, none⟩)] w fun r w' => r = .returned (.bool (farB e x y i)) ∧ w = w' := by
  obtain ⟨gc, gz⟩ := hg.open
  have r0 := h0; have r1 := h1; have r2 := h2
  obtain ⟨b0, o0, rfl, k0⟩ := r0 i _ (fvals_get (show i < e.length by omega))
  have G0 := Lib.hid (getD_get (show i < e.length by omega))
  generalize e[i] = v0 at *
  obtain ⟨b1, o1, rfl, k1⟩ := r1 i _ (fvals_get (show i < x.length by omega))
  have G1 := Lib.hid (getD_get (show i < x.length by omega))
  generalize x[i] = v1 at *
  obtain ⟨b2, o2, rfl, k2⟩ := r2 i _ (fvals_get (show i < y.length by omega))
  have G2 := Lib.hid (getD_get (show i < y.length by omega))
  generalize y[i] = v2 at *
  have hin : (i : Int) < (n : Int) := by omega
  clear h0 h1 h2 l0 l1 l2 r0 r1 r2
  rcases z0 : zB v0 with _ | _
  · skip
    have HFB : Hid (farB e x y i = false) := Lib.hid (by unfold farB; rw [G0.out, z0]; rfl)
    unfold zB at z0
    go_enter Try.func93, Try.ntmps93
    go_wp2
    go_ret
    exact ⟨by rw [HFB.out]; rfl, rfl⟩
  · skip
    rcases z1 : zB v1 with _ | _
    · skip
      have HFB : Hid (farB e x y i = false) := Lib.hid (by unfold farB; rw [G0.out, z0, G1.out, z1]; rfl)
      unfold zB at z0
      unfold zB at z1
      go_enter Try.func93, Try.ntmps93
      go_wp2
      go_ret
      exact ⟨by rw [HFB.out]; rfl, rfl⟩
    · skip
      rcases z2 : zB v2 with _ | _
      · skip
        have HFB : Hid (farB e x y i = false) := Lib.hid (by unfold farB; rw [G0.out, z0, G1.out, z1, G2.out, z2]; rfl)
        unfold zB at z0
        unfold zB at z1
        unfold zB at z2
        go_enter Try.func93, Try.ntmps93
        go_wp2
        go_ret
        exact ⟨by rw [HFB.out]; rfl, rfl⟩
      · skip
        have HFB : Hid (farB e x y i = true) := Lib.hid (by unfold farB; rw [G0.out, z0, G1.out, z1, G2.out, z2]; rfl)
        unfold zB at z0
        unfold zB at z1
        unfold zB at z2
        go_enter Try.func93, Try.ntmps93
        go_wp2
        go_ret
        exact ⟨by rw [HFB.out]; rfl, rfl⟩

set_option maxHeartbeats 4000000 in
set_option maxRecDepth 100000 in
theorem implIndicesFar (wd hi : Int) (wb : Bool) (gf n : Nat) (a0 a1 a2 : Option Addr) (c0 c1 c2 : Nat) (e x y : List Nat) (w : World) (hg : Blk w gf #[.slice a0 n c0, .slice a1 n c1, .slice a2 n c2] 34) (h0 : RowV w a0 (fvals e)) (h1 : RowV w a1 (fvals x)) (h2 : RowV w a2 (fvals y)) (l0 : e.length = n) (l1 : x.length = n) (l2 : y.length = n) (hn : wd * hi = n) (n256 : n ≤ 256) : Calls Try.prog 91 #[.agg #[.int .i64 wd, .int .i64 hi, .bool wb], .func (.func 93) #[] #[.pointer (some ⟨gf, 0, none⟩)]] w fun r w' => ∃ a c, r = .returned (.slice a (farL e x y n).length c) ∧ OwnV w' w.heap.size a (ivals (farL e x y n)) ∧ Below w.heap.size w w' := by
  obtain ⟨ti, hi0, hz0, hz1, hz2⟩ := info_parts Try.infoI64
  have HI := Lib.hid hi0; have HZ0 := Lib.hid hz0; have HZ1 := Lib.hid hz1; have HZ2 := Lib.hid hz2; clear hi0 hz0 hz1 hz2
  have hc1 : 0 ≤ wd * hi := by omega
  have hc2 : wd * hi ≤ 256 := by omega
  have HN := Lib.hid hn; clear hn
  have L0 := Lib.hid l0; have L1 := Lib.hid l1; have L2 := Lib.hid l2; clear l0 l1 l2
  have X := Blk.new w #[.int .i64 wd, .int .i64 hi, .bool wb] 73
  have HB : Hid (Below w.heap.size w (w.alloc (.cells #[.int .i64 wd, .int .i64 hi, .bool wb] 73))) := Lib.hid ((Below.refl w.heap.size w).alloc (by simp <;> omega) _)
  go_enter Try.func91, Try.ntmps91
  go_wp2_with fail
  generalize (w.alloc (.cells #[.int .i64 wd, .int .i64 hi, .bool wb] 73)) = u1 at *
  refine (implCount _ _ _ _ hc1 hc2).mono ?_
  rintro r u2 ⟨rfl, q⟩
  replace X := X.later q
  replace HB := Lib.hid (HB.out.trans (q.mono HB.out.size))
  clear q
  rw [HN.out]
  clear hc1 hc2
  have OS := Lib.hid (outsI_nil HB.out)
  clear X HB
  go_wp2
  go_loopw [9, 5] (fun iv v wr => ∃ k : Nat, k ≤ n ∧ iv = .int .i64 k ∧ OutsI w wr v (farL e x y k)) (fun iv _ _ => n - (intOf iv).toNat)
  case atStart => exact ⟨0, Nat.zero_le _, rfl, OS.out⟩
  case round =>
    obtain ⟨k, hk, rfl, hout⟩ := hrel
    have HO := Lib.hid hout; clear hout OS
    by_cases hlt : k < n
    · skip
      rcases hf : farB e x y k with _ | _
      · skip
        have HL := Lib.hid (farL_no hf)
        have H_f := Lib.hid hf; clear hf
        go_wp2_with fail
        refine (implFar gf k n _ _ _ _ _ _ e x y _ (hg.later HO.out.2) (h0.later HO.out.2) (h1.later HO.out.2) (h2.later HO.out.2) L0.out L1.out L2.out hlt n256).mono ?_
        rintro r w' ⟨rfl, rfl⟩
        rw [H_f.out]
        go_wp2
        go_roundw
        case rel => exact ⟨k + 1, by omega, by go_num, by rw [HL.out]; exact HO.out⟩
        case measure => simp [intOf]; omega
      · skip
        have HL := Lib.hid (farL_yes hf)
        have H_f := Lib.hid hf; clear hf
        go_wp2_with fail
        refine (implFar gf k n _ _ _ _ _ _ e x y _ (hg.later HO.out.2) (h0.later HO.out.2) (h1.later HO.out.2) (h2.later HO.out.2) L0.out L1.out L2.out hlt n256).mono ?_
        rintro r w' ⟨rfl, rfl⟩
        rw [H_f.out]
        have hown := HO.out.1
        go_wp2_with (at_builtin; refine wpList_append_own _ rfl _ _ 56 rfl w.heap.size 2 ti (.int .i64 0) 1 8 Try.underlying56 HI.out HZ0.out HZ1.out HZ2.out rfl (by decide) _ _ _ rfl (hown.alloc _) ⟨wr.heap.size, 0, none⟩ 1 1 [.int .i64 (k : Int)] rfl rfl (oneI_news _ _) (oneI_cells _) (by have := farL_few e x y k; unfold maxLen; omega) (by have := farL_few e x y k; omega) (by have := HO.out.2.size; simp; omega) ?_; intro v' w9 hown' hgrow _)
        have HO2 := Lib.hid (outsI_next HO.out hown' hgrow); clear hown hown' hgrow
        go_wp2
        go_roundw
        case rel => exact ⟨k + 1, by omega, by go_num, by rw [HL.out]; exact HO2.out⟩
        case measure => simp [intOf]; omega
    · skip
      obtain rfl : k = n := by omega
      obtain ⟨a9, c9, rfl, hown, hb⟩ := outsI_end HO.out
      go_wp2
      go_ret
      exact ⟨a9, c9, rfl, hown, hb⟩

end Go.Proofs.Ytpnfgchifclhlab
