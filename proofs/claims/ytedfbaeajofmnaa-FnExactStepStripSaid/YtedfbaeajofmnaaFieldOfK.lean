/- Fields out of grids, with their capacities. Conditions: none beyond those of each theorem. -/
import Derived.Test.YtedfbaeajofmnaaBu18
namespace Go.Proofs.Ytedfbaeajofmnaa
open Go Ieee Go.RowKit
set_option linter.unusedVariables false

theorem outs_endK {w wr : World} {v : Value} {n : Nat} {zs : List Nat} (h : Outs w wr v n zs) (hn : 0 < n) : ∃ a c, v = .slice a n c ∧ OwnV wr w.heap.size a (fvals zs) ∧ Below w.heap.size w wr ∧ n ≤ c := by
  rcases h.2.1.2 with ⟨_, h0⟩ | ⟨g, cap, cur, hv, _, _, hle, _⟩
  · omega
  · subst hv
    exact ⟨_, cap, rfl, OwnV.of_owned h.2.1, h.2.2, hle⟩

set_option maxHeartbeats 4000000 in
set_option maxRecDepth 100000 in
theorem implListOfK (g o m k : Nat) (wb : Bool) (cs : Array Value) (t : TypeId) (F : Nat → Nat) (w : World) (hg : Blk w g cs t) (hs : o + 256 ≤ cs.size) (hone : cs.all (·.oneCell') = true) (hG : GR cs o m k F) (h1 : 3 ≤ m) (h2 : m ≤ 16) (h3 : 3 ≤ k) (h4 : k ≤ 16) :
    Calls Try.prog 130 #[.agg #[.int .i64 (m : Int), .int .i64 (k : Int), .bool wb], .pointer (some ⟨g, o, none⟩)] w fun e w' => ∃ a c, e = .returned (.slice a (m * k) c) ∧ OwnV w' w.heap.size a (fvals (firsts F (m * k))) ∧ Below w.heap.size w w' ∧ m * k ≤ c := by
  have hk' : (k : Int) ≤ 16 := by omega
  have hm' : (m : Int) ≤ 16 := by omega
  have hpos : 0 < m * k := Nat.mul_pos (by omega) (by omega)
  have hfew : m * k ≤ 256 := Nat.le_trans (Nat.mul_le_mul h2 h4) (by decide)
  obtain ⟨n, hn⟩ : ∃ n : Nat, n = m * k := ⟨_, rfl⟩
  have hn1 : n ≤ 256 := by rw [hn]; exact hfew
  have hn0 : 0 < n := by rw [hn]; exact hpos
  have HN : Hid ((m : Int) * (k : Int) = (n : Int)) := Lib.hid (by rw [hn]; simp)
  have c1 : 0 ≤ (m : Int) * (k : Int) := by rw [HN.out]; omega
  have c2 : (m : Int) * (k : Int) ≤ 256 := by rw [HN.out]; omega
  rw [← hn]
  have HN2 := Lib.hid hn; clear hn hpos hfew
  have HHG := Lib.hid hG; clear hG
  have hmk := make_f32cap n (by omega)
  have X := Blk.new w #[.int .i64 (m : Int), .int .i64 (k : Int), .bool wb] 80
  have G := hg.alloc (.cells #[.int .i64 (m : Int), .int .i64 (k : Int), .bool wb] 80)
  have HB : Hid (Below w.heap.size w (w.alloc (.cells #[.int .i64 (m : Int), .int .i64 (k : Int), .bool wb] 80))) := Lib.hid (below_new _ _)
  have hglt := hg.lt
  clear hg
  go_enter Try.func130, Try.ntmps130
  go_wp2_with fail
  generalize (w.alloc (.cells #[.int .i64 (m : Int), .int .i64 (k : Int), .bool wb] 80)) = u1 at *
  obtain ⟨Xc, Xf⟩ := X.open
  go_wp2_with fail
  refine (implCount _ _ _ _ c1 c2).mono ?_
  rintro r u2 ⟨rfl, q⟩
  clear Xc Xf
  replace X := X.later q; replace G := G.later q
  replace HB := Lib.hid (HB.out.trans (q.mono HB.out.size)); clear q
  rw [HN.out]
  clear c1 c2
  have OS : Hid (Outs u2 (u2.alloc (.cells (Array.replicate n (Value.float .f32 0)) 102)) (.slice (some ⟨u2.heap.size, 0, none⟩) 0 n) 0 []) := Lib.hid (outs_cap u2 n (by omega))
  have HS0 := HB.out.size
  obtain ⟨Xc, Xf⟩ := (X.alloc (.cells (Array.replicate n (Value.float .f32 0)) 102)).open
  go_wp2_with fail
  go_quiet (fail)
  clear Xc Xf hmk
  go_wp2

  go_loopw [17, 5] (fun iv v wr => ∃ j : Nat, j ≤ k ∧ iv = .int .i64 j ∧ Outs u2 wr v (m * j) (firsts F (m * j))) (fun iv _ _ => k - (intOf iv).toNat)
  case atStart => exact ⟨0, Nat.zero_le _, rfl, outs_later OS.out (below_drewN (Below.refl _ _) _)⟩
  clear OS
  obtain ⟨j, hj, rfl, hout⟩ := hrel
  have HO := Lib.hid hout; clear hout
  replace X := X.later HO.out.2.2; replace G := G.later HO.out.2.2
  by_cases hlt : j < k
  · skip
    have hjk : (j : Int) < (k : Int) := by omega
    have hrow : o + j * 16 + 16 ≤ cs.size := by omega
    have HL : Hid (firsts F (m * j + m) = firsts F (m * j) ++ firsts (fun i => F (m * j + i)) m) := Lib.hid (firsts_add F _ _)
    have HLL : Hid (m * (j + 1) = m * j + m) := Lib.hid (Nat.mul_succ m j)
    have HRL := Lib.hid (rowAt_length hrow)
    have HRS : Hid ((Try.prog.info? 121).map (·.size) = some (rowAt cs o j).length) := Lib.hid (by rw [HRL.out]; exact a16_size)
    have HR : Hid (wr.rangeAt g (o + j * 16) (rowAt cs o j)) := Lib.hid (World.rangeAt_of_block G (o + j * 16) 16)
    have HZS : Hid (z16.size = (rowAt cs o j).toArray.size) := Lib.hid (by show (16 : Nat) = _; rw [List.size_toArray, HRL.out])
    have HRS2 : Hid ((Try.prog.info? 121).map (·.size) = some (rowAt cs o j).toArray.size) := Lib.hid (by rw [List.size_toArray]; exact HRS.out)
    have HR1 := Lib.hid (rowAt_one (o := o) (j := j) hone)
    have NB := Blk.new wr z16 121
    obtain ⟨Xc, Xf⟩ := X.open
    have X2 := X.alloc (.cells z16 121)
    have G2 := G.alloc (.cells z16 121)
    have hxlt := X.lt
    go_upto_region 5 with (first
      | (refine wpList_load_mid rfl _ _ rfl g (o + j * 16) rfl (rowAt cs o j) _ HR.out Try.underlying121 rfl HRS.out ?_)
      | (refine wpList_alloc_big rfl _ rfl z16 a16_zero ?_)
      | (refine wpList_store_row rfl _ _ _ rfl wr.heap.size (rowAt cs o j).toArray rfl rfl 121 z16 NB HRS2.out HZS.out HR1.out ?_)
      | fail)
    have NB3 := NB.row (rowAt cs o j).toArray
    have X3 := X2.rowOther (show w.heap.size ≠ wr.heap.size by omega) (rowAt cs o j).toArray
    have B3 : Below wr.heap.size wr ((wr.alloc (.cells z16 121)).setRow wr.heap.size (rowAt cs o j).toArray) := below_setRow (below_new _ _) (Nat.le_refl _) _
    generalize ((wr.alloc (.cells z16 121)).setRow wr.heap.size (rowAt cs o j).toArray) = w3 at *
    have HO3 := Lib.hid (outs_later HO.out B3); clear HO
    have HNW := Lib.hid (rowAt_news NB3 hrow HHG.out h2 hlt)
    obtain ⟨Yc, Yf⟩ := X3.open
    clear Xc Xf
    obtain ⟨ti, hi0, hz0, hz1, hz2⟩ := info_parts Try.infoF32
    have HI := Lib.hid hi0; have HZ0 := Lib.hid hz0; have HZ1 := Lib.hid hz1; have HZ2 := Lib.hid hz2; clear hi0 hz0 hz1 hz2
    have HLN : Hid ((fvals (firsts (fun i => F (m * j + i)) m)).length = m) := Lib.hid (by rw [fvals_length, firsts_length])
    have HJ : m * j + m ≤ 256 := by rw [← HLL.out]; exact Nat.le_trans (Nat.mul_le_mul h2 (show j + 1 ≤ 16 by omega)) (by decide)
    have hown := HO3.out.2.1
    have sz3 := HO3.out.2.2.size
    go_wp2_with (at_builtin; (refine wpList_append_own _ rfl _ _ 22 rfl u2.heap.size 102 ti (.float .f32 0) 1 4 Try.underlying22 HI.out HZ0.out HZ1.out HZ2.out rfl (by decide) _ _ _ rfl hown ⟨wr.heap.size, 0, none⟩ m 16 (fvals (firsts (fun i => F (m * j + i)) m)) rfl (by rw [Nat.mul_one]; exact HLN.out) HNW.out (fvals_all _) (by unfold maxLen; omega) (by omega) sz3 ?_); intro v' w9 hown' hgrow _)
    have HO9 := Lib.hid (outs_more HO3.out (by rw [firsts_length]) hown' hgrow); clear hown hown' hgrow
    go_wp2
    go_roundw
    case rel => exact ⟨j + 1, by omega, by go_num, by rw [HLL.out, HL.out]; exact HO9.out⟩
    case measure => simp [intOf]; omega
  · skip
    obtain rfl : j = k := by omega
    have HO2 : Hid (Outs u2 wr u5 n (firsts F n)) := Lib.hid (by have := HO.out; rw [← HN2.out] at this; exact this); clear HO
    obtain ⟨a9, c9, rfl, hown, hb9, hc9⟩ := outs_endK HO2.out hn0
    go_wp2
    go_ret
    exact ⟨a9, c9, rfl, hown.lower HS0, HB.out.trans (hb9.mono HS0), hc9⟩

theorem implListOfSK (g o m k n : Nat) (wb : Bool) (cs : Array Value) (t : TypeId) (F : Nat → Nat) (w : World) (hg : Blk w g cs t) (hs : o + 256 ≤ cs.size) (hone : cs.all (·.oneCell') = true) (hG : GR cs o m k F) (h1 : 3 ≤ m) (h2 : m ≤ 16) (h3 : 3 ≤ k) (h4 : k ≤ 16) (hn : Hid (n = m * k)) :
    Calls Try.prog 130 #[.agg #[.int .i64 (m : Int), .int .i64 (k : Int), .bool wb], .pointer (some ⟨g, o, none⟩)] w fun e w' => ∃ gg c, e = .returned (.slice (some ⟨gg, 0, none⟩) n c) ∧ OwnV w' w.heap.size (some ⟨gg, 0, none⟩) (fvals (firsts F n)) ∧ Below w.heap.size w w' ∧ n ≤ c :=
  (implListOfK g o m k wb cs t F w hg hs hone hG h1 h2 h3 h4).mono fun e w' ⟨a, c, he, ho, hb, hc⟩ => by
    rw [← hn.out] at he ho hc
    have hne : fvals (firsts F n) ≠ [] := by
      intro h0
      have := congrArg List.length h0
      rw [fvals_length, firsts_length, hn.out] at this
      have : 0 < m * k := Nat.mul_pos (by omega) (by omega)
      simp_all
    obtain ⟨gg, rfl⟩ := own_at ho hne
    exact ⟨gg, c, he, ho, hb, hc⟩

set_option maxHeartbeats 4000000 in
set_option maxRecDepth 100000 in
theorem implFieldOfK (m k n : Nat) (wb : Bool) (cs : Array Value) (E X Y : Nat → Nat) (w : World) (hG : GF cs m k E X Y) (h1 : 3 ≤ m) (h2 : m ≤ 16) (h3 : 3 ≤ k) (h4 : k ≤ 16) (hn : Hid (n = m * k)) :
    Calls Try.prog 90 #[.agg #[.int .i64 (m : Int), .int .i64 (k : Int), .bool wb], .agg cs] w fun r w' => ∃ g0 g1 g2 c0 c1 c2, r = .returned (.agg #[.slice (some ⟨g0, 0, none⟩) n c0, .slice (some ⟨g1, 0, none⟩) n c1, .slice (some ⟨g2, 0, none⟩) n c2]) ∧ NewField w.heap.size w w' n E X Y g0 g1 g2 ∧ n ≤ c0 ∧ n ≤ c1 ∧ n ≤ c2 := by
  obtain ⟨⟨hsz, hone⟩, g0, g1, g2⟩ := hG
  have HE := Lib.hid hone; have HG0 := Lib.hid g0; have HG1 := Lib.hid g1; have HG2 := Lib.hid g2; clear hone g0 g1 g2
  have HSZ := Lib.hid hsz; clear hsz
  have hs0 : Hid (0 + 256 ≤ cs.size) := Lib.hid (by rw [HSZ.out]; decide); have hs1 : Hid (256 + 256 ≤ cs.size) := Lib.hid (by rw [HSZ.out]; decide); have hs2 : Hid (512 + 256 ≤ cs.size) := Lib.hid (by rw [HSZ.out]; decide)
  have Z := Blk.new w #[.int .i64 (m : Int), .int .i64 (k : Int), .bool wb] 80
  have G := Blk.new1 w (.cells #[.int .i64 (m : Int), .int .i64 (k : Int), .bool wb] 80) cs 125
  replace Z := Z.alloc (.cells cs 125)
  have R := Blk.new2 w (.cells #[.int .i64 (m : Int), .int .i64 (k : Int), .bool wb] 80) (.cells cs 125) #[.slice none 0 0, .slice none 0 0, .slice none 0 0] 38
  replace Z := Z.alloc (.cells #[.slice none 0 0, .slice none 0 0, .slice none 0 0] 38)
  replace G := G.alloc (.cells #[.slice none 0 0, .slice none 0 0, .slice none 0 0] 38)
  have HB : Hid (Below w.heap.size w (((w.alloc (.cells #[.int .i64 (m : Int), .int .i64 (k : Int), .bool wb] 80)).alloc (.cells cs 125)).alloc (.cells #[.slice none 0 0, .slice none 0 0, .slice none 0 0] 38))) := Lib.hid ((((Below.refl w.heap.size w).alloc (by simp <;> omega) _).alloc (by simp <;> omega) _).alloc (by simp <;> omega) _)
  go_enter Try.func90, Try.ntmps90
  go_wp2_with fail
  generalize (((w.alloc (.cells #[.int .i64 (m : Int), .int .i64 (k : Int), .bool wb] 80)).alloc (.cells cs 125)).alloc (.cells #[.slice none 0 0, .slice none 0 0, .slice none 0 0] 38)) = u1 at *
  have zR := R.lt; have neG : w.heap.size + 1 ≠ w.heap.size + 1 + 1 := by omega
  obtain ⟨Zc, Zf⟩ := Z.open
  go_wp2_with fail
  clear Zc Zf
  obtain ⟨Zc, Zf⟩ := Z.open
  clear Zc Zf
  have neZ : w.heap.size ≠ w.heap.size + 1 + 1 := by omega
  have tk0 : True := trivial
  have tk1 : True := trivial
  have tk2 : True := trivial
  go_region_held3 (fun w' => (∀ i, w'.cell? ⟨w.heap.size, i, none⟩ = (#[.int .i64 (m : Int), .int .i64 (k : Int), .bool wb] : Array Value)[i]?) ∧ u1.grownBy w' (some (w.heap.size + 1 + 1))) (first | with_reducible exact keepR1_start Z | with_reducible exact keepR1_later Z neZ (by assumption) (by assumption) | exact keepR1_set3 Z neZ (by assumption) _ _ _)
    (first
      | (go_at_call 130; have _t := tk0; clear _t tk0; (with_reducible refine (implListOfSK _ 0 m k n wb cs _ E _ (blk_heldR1 G neG (by assumption)) hs0.out HE.out HG0.out h1 h2 h3 h4 hn).mono ?_); rintro r u2 ⟨gg0, cc0, rfl, oo0, qa0, kc0⟩)
      | (go_at_call 130; have _t := tk1; clear _t tk1; (with_reducible refine (implListOfSK _ 256 m k n wb cs _ X _ (blk_heldR1 G neG (by assumption)) hs1.out HE.out HG1.out h1 h2 h3 h4 hn).mono ?_); rintro r u3 ⟨gg1, cc1, rfl, oo1, qa1, kc1⟩)
      | (go_at_call 130; have _t := tk2; clear _t tk2; (with_reducible refine (implListOfSK _ 512 m k n wb cs _ Y _ (blk_heldR1 G neG (by assumption)) hs2.out HE.out HG2.out h1 h2 h3 h4 hn).mono ?_); rintro r u4 ⟨gg2, cc2, rfl, oo2, qa2, kc2⟩; obtain ⟨Rc, Rf⟩ := (R.later (below_next (below_next (below_next (below_drew u1) qa0) qa1) qa2)).open))
  go_wp2
  have z0 := HB.out.size
  have y1 : u1.heap.size ≤ u2.heap.size := qa0.size; have y2 : u2.heap.size ≤ u3.heap.size := qa1.size; have y3 : u3.heap.size ≤ u4.heap.size := qa2.size
  have g1 := (oo0.span _ rfl).2; have g2 := (oo1.span _ rfl).2; have g3 := (oo2.span _ rfl).2; dsimp only at g1 g2 g3; have h1 : u1.heap.size ≤ gg0 := oo0.bound gg0 rfl; have h2 : u2.heap.size ≤ gg1 := oo1.bound gg1 rfl; have h3 : u3.heap.size ≤ gg2 := oo2.bound gg2 rfl
  have e0 : u1.drew.heap.size = u1.heap.size := rfl
  refine bodyPost_ret (v := .agg #[.slice (some ⟨gg0, 0, none⟩) n cc0, .slice (some ⟨gg1, 0, none⟩) n cc1, .slice (some ⟨gg2, 0, none⟩) n cc2]) (by simp [results, Try.results90, go_sem, Rc]) rfl ⟨gg0, gg1, gg2, cc0, cc1, cc2, rfl, ⟨((((((oo0.later qa1).later qa2).lower (show w.heap.size ≤ _ by omega)).set (p := ⟨w.heap.size + 1 + 1, 0, none⟩) (ne_block (h := w.heap.size + 1 + 1) (by omega)) _).set (p := ⟨w.heap.size + 1 + 1, 1, none⟩) (ne_block (h := w.heap.size + 1 + 1) (by omega)) _).set (p := ⟨w.heap.size + 1 + 1, 2, none⟩) (ne_block (h := w.heap.size + 1 + 1) (by omega)) _), (((((oo1.later qa2).lower (show w.heap.size ≤ _ by omega)).set (p := ⟨w.heap.size + 1 + 1, 0, none⟩) (ne_block (h := w.heap.size + 1 + 1) (by omega)) _).set (p := ⟨w.heap.size + 1 + 1, 1, none⟩) (ne_block (h := w.heap.size + 1 + 1) (by omega)) _).set (p := ⟨w.heap.size + 1 + 1, 2, none⟩) (ne_block (h := w.heap.size + 1 + 1) (by omega)) _), (((((oo2).lower (show w.heap.size ≤ _ by omega)).set (p := ⟨w.heap.size + 1 + 1, 0, none⟩) (ne_block (h := w.heap.size + 1 + 1) (by omega)) _).set (p := ⟨w.heap.size + 1 + 1, 1, none⟩) (ne_block (h := w.heap.size + 1 + 1) (by omega)) _).set (p := ⟨w.heap.size + 1 + 1, 2, none⟩) (ne_block (h := w.heap.size + 1 + 1) (by omega)) _), by omega, by omega, by omega, ((((HB.out.trans ((below_next (below_next (below_next (below_drew u1) qa0) qa1) qa2).mono HB.out.size)).setCell (p := ⟨w.heap.size + 1 + 1, 0, none⟩) (by first | omega | (simp <;> omega)) _).setCell (p := ⟨w.heap.size + 1 + 1, 1, none⟩) (by first | omega | (simp <;> omega)) _).setCell (p := ⟨w.heap.size + 1 + 1, 2, none⟩) (by first | omega | (simp <;> omega)) _)⟩, kc0, kc1, kc2⟩

end Go.Proofs.Ytedfbaeajofmnaa
