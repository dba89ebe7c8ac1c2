/- Lists that are cloned. Conditions: none beyond those of each theorem. -/
import Derived.Test.YtabhjnpmmjmaiabZero2
import Derived.WalkSpells
namespace Go.Proofs.Ytabhjnpmmjmaiab
open Go Ieee Go.RowKit
set_option linter.unusedVariables false

theorem row_news {w : World} {b off : Nat} {vs : List Value} (h : RowV w (some ⟨b, off, none⟩) vs) : ∀ j u, vs[j]? = some u → w.cell? ((⟨b, off, none⟩ : Addr).add j) = some u := by
  intro j u hu
  obtain ⟨b', o', e, hc⟩ := h j u hu
  injection e with e
  injection e with e1 e2 _
  subst e1; subst e2
  by_cases hj : j = 0
  · subst hj; simpa [Addr.add] using hc
  · simpa [Addr.add, hj] using hc

theorem fvals_one {xs : List Nat} : ∀ u ∈ fvals xs, u.oneCell' = true := fun u hu => by
  unfold fvals at hu
  obtain ⟨x, _, rfl⟩ := List.mem_map.1 hu
  rfl

set_option maxRecDepth 100000 in
theorem implClone (b off c : Nat) (xs : List Nat) (w : World) (hr : RowV w (some ⟨b, off, none⟩) (fvals xs)) (h0 : 0 < xs.length) (hn : xs.length ≤ 1048576) : Calls Try.prog 80 #[.slice (some ⟨b, off, none⟩) xs.length c] w fun e w' => ∃ g c', e = .returned (.slice (some ⟨g, 0, none⟩) xs.length c') ∧ OwnV w' w.heap.size (some ⟨g, 0, none⟩) (fvals xs) ∧ Below w.heap.size w w' := by
  obtain ⟨i0, hi, hz0, hz1, hz2⟩ := info_parts Try.infoF32
  have HI := Lib.hid hi; have HZ0 := Lib.hid hz0; have HZ1 := Lib.hid hz1; have HZ2 := Lib.hid hz2
  clear hi hz0 hz1 hz2
  generalize hlen : xs.length = n at *
  have HL := Lib.hid hlen; clear hlen
  have hnil := fun (w : World) => Lib.run_eql_slice_nil (P := Try.prog) w 22 32 (some ⟨b, off, none⟩) n c 0 0 Try.underlying22
  skip
  go_enter Try.func80, Try.ntmps80
  go_wp2_with (at_builtin; refine wpList_append_own _ rfl _ _ 22 rfl w.heap.size 32 i0 (.float .f32 0) 1 4 Try.underlying22 HI.out HZ0.out HZ1.out HZ2.out rfl (by decide) (.slice (some ⟨w.heap.size, 0, none⟩) 0 0) 0 [] rfl (World.ownsRow_made w _ 0 (Nat.le_refl _) (by decide) rfl) ⟨b, off, none⟩ n c (fvals xs) rfl (by rw [fvals_length, HL.out, Nat.mul_one]) (row_news (hr.later (below_new _ _))) fvals_one (by unfold maxLen; omega) (by omega) (by simp) ?_; intro v' w1 hown hgrow _)
  have ho2 : w1.ownsRow w.heap.size 32 1 v' n (fvals xs) := by simpa using hown
  obtain ⟨g, cap, hv⟩ : ∃ g cap, v' = .slice (some ⟨g, 0, none⟩) n cap := by
    rcases ho2.2 with ⟨_, h⟩ | ⟨g, cap, cur, h, _⟩
    · omega
    · exact ⟨g, cap, h⟩
  rw [hv] at ho2
  go_ret
  exact ⟨g, cap, by rw [← hv]; rfl, OwnV.of_owned ho2, ((Below.refl _ _).alloc (Nat.le_refl _) _).grown hgrow (by simp) (fun k hk => by simp [Value.ownBlock] at hk; omega)⟩

end Go.Proofs.Ytabhjnpmmjmaiab
