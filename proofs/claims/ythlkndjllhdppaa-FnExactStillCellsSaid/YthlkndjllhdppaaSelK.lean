/- Indices of cells for which something holds: the program's loop, for any test. Conditions: none beyond those of each theorem. -/
import Derived.Test.YthlkndjllhdppaaFarA
import Derived.Test.YthlkndjllhdppaaBu7
import Derived.Test.YthlkndjllhdppaaCallV
namespace Go.Proofs.Ythlkndjllhdppaa
open Go Ieee Go.RowKit
set_option linter.unusedVariables false

def selL (p : Nat → Bool) (k : Nat) : List Int := ((List.range k).filter p).map fun (i : Nat) => (i : Int)

theorem selL_zero (p : Nat → Bool) : selL p 0 = [] := rfl
theorem selL_yes {p : Nat → Bool} {k : Nat} (h : p k = true) : selL p (k + 1) = selL p k ++ [(k : Int)] := by
  unfold selL; rw [List.range_succ, List.filter_append, List.map_append]; simp [List.filter_cons, h]
theorem selL_no {p : Nat → Bool} {k : Nat} (h : p k = false) : selL p (k + 1) = selL p k := by
  unfold selL; rw [List.range_succ, List.filter_append, List.map_append]; simp [List.filter_cons, h]
theorem selL_few (p : Nat → Bool) (k : Nat) : (selL p k).length ≤ k := by
  unfold selL; rw [List.length_map]; have := List.length_filter_le p (List.range k); rw [List.length_range] at this; exact this

theorem outsI_later {w wr u : World} {v : Value} {zs : List Int} (h : OutsI w wr v zs) (q : Below wr.heap.size wr u) : OutsI w u v zs := by
  refine ⟨⟨h.1.1, ?_⟩, h.2.trans (q.mono h.2.size)⟩
  rcases h.1.2 with h0 | ⟨g, cap, cur, hv, hg, hh, r⟩
  · exact .inl h0
  · exact .inr ⟨g, cap, cur, hv, hg, (q.block g (Array.getElem?_eq_some_iff.1 hh).1).trans hh, r⟩

set_option maxHeartbeats 4000000 in
set_option maxRecDepth 100000 in
theorem implIndices (wd hi : Int) (wb : Bool) (n : Nat) (fc : FuncId) (caps : Array Value) (p : Nat → Bool) (w : World) (hG : IsGo fc) (hC : ∀ i, i < n → ∀ w', Below w.heap.size w w' → Calls Try.prog fc (#[] ++ #[.int .i64 (i : Int)] ++ caps) w' fun r w'' => r = .returned (.bool (p i)) ∧ Below w'.heap.size w' w'') (hn : wd * hi = n) (n256 : n ≤ 256) : Calls Try.prog 68 #[.agg #[.int .i64 wd, .int .i64 hi, .bool wb], .func (.func fc) #[] caps] w fun r w' => ∃ a c, r = .returned (.slice a (selL p n).length c) ∧ OwnV w' w.heap.size a (ivals (selL p n)) ∧ Below w.heap.size w w' := by
  obtain ⟨ti, hi0, hz0, hz1, hz2⟩ := info_parts Try.infoI64
  have HI := Lib.hid hi0; have HZ0 := Lib.hid hz0; have HZ1 := Lib.hid hz1; have HZ2 := Lib.hid hz2; clear hi0 hz0 hz1 hz2
  have hc1 : 0 ≤ wd * hi := by omega
  have hc2 : wd * hi ≤ 256 := by omega
  have HN := Lib.hid hn; clear hn
  have HC := Lib.hid hC; clear hC
  have X := Blk.new w #[.int .i64 wd, .int .i64 hi, .bool wb] 82
  have HB : Hid (Below w.heap.size w (w.alloc (.cells #[.int .i64 wd, .int .i64 hi, .bool wb] 82))) := Lib.hid ((Below.refl w.heap.size w).alloc (by simp <;> omega) _)
  go_enter Try.func68, Try.ntmps68
  go_wp2_with fail
  generalize (w.alloc (.cells #[.int .i64 wd, .int .i64 hi, .bool wb] 82)) = u1 at *
  refine (implCount _ _ _ _ hc1 hc2).mono ?_
  rintro r u2 ⟨rfl, q⟩
  replace X := X.later q
  replace HB := Lib.hid (HB.out.trans (q.mono HB.out.size))
  clear q
  rw [HN.out]
  clear hc1 hc2
  have OS := Lib.hid (outsI_nil HB.out)
  clear X HB
  go_wp2
  go_loopw [9, 5] (fun iv v wr => ∃ k : Nat, k ≤ n ∧ iv = .int .i64 k ∧ OutsI w wr v (selL p k)) (fun iv _ _ => n - (intOf iv).toNat)
  case atStart => exact ⟨0, Nat.zero_le _, rfl, OS.out⟩
  case round =>
    obtain ⟨k, hk, rfl, hout⟩ := hrel
    have HO := Lib.hid hout; clear hout OS
    by_cases hlt : k < n
    · skip
      rcases hf : p k with _ | _
      · skip
        have HL := Lib.hid (selL_no hf)
        have H_f := Lib.hid hf; clear hf
        go_wp2_with (refine wpList_callV fc #[] caps rfl hG [.int .i64 (k : Int)] rfl _ (HC.out k hlt _ HO.out.2) ?_; rintro e u3 ⟨rfl, q⟩; refine ⟨_, rfl, ?_⟩; rw [H_f.out])
        replace HO := Lib.hid (outsI_later HO.out q)
        go_wp2
        go_roundw
        case rel => exact ⟨k + 1, by omega, by go_num, by rw [HL.out]; exact HO.out⟩
        case measure => simp [intOf]; omega
      · skip
        have HL := Lib.hid (selL_yes hf)
        have H_f := Lib.hid hf; clear hf
        go_wp2_with (first | (refine wpList_callV fc #[] caps rfl hG [.int .i64 (k : Int)] rfl _ (HC.out k hlt _ HO.out.2) ?_; rintro e u3 ⟨rfl, q⟩; refine ⟨_, rfl, ?_⟩; rw [H_f.out]; replace HO := Lib.hid (outsI_later HO.out q); have hown := HO.out.1) | (at_builtin; refine wpList_append_own _ rfl _ _ 26 rfl w.heap.size 2 ti (.int .i64 0) 1 8 Try.underlying26 HI.out HZ0.out HZ1.out HZ2.out rfl (by decide) _ _ _ rfl (hown.alloc _) ⟨u3.heap.size, 0, none⟩ 1 1 [.int .i64 (k : Int)] rfl rfl (oneI_news _ _) (oneI_cells _) (by have := selL_few p k; unfold maxLen; omega) (by have := selL_few p k; omega) (by have := HO.out.2.size; simp; omega) ?_; intro v' w9 hown' hgrow _))
        have HO2 := Lib.hid (outsI_next HO.out hown' hgrow); clear hown hown' hgrow
        go_wp2
        go_roundw
        case rel => exact ⟨k + 1, by omega, by go_num, by rw [HL.out]; exact HO2.out⟩
        case measure => simp [intOf]; omega
    · skip
      obtain rfl : k = n := by omega
      obtain ⟨a9, c9, rfl, hown, hb⟩ := outsI_end HO.out
      go_wp2
      go_ret
      exact ⟨a9, c9, rfl, hown, hb⟩

end Go.Proofs.Ythlkndjllhdppaa
