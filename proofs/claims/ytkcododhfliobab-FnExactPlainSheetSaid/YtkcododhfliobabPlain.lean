/- Sheets that are plain: the program's answer. Conditions: none beyond those of each theorem. -/
import Derived.Test.YtkcododhfliobabRept
import Derived.Test.YtkcododhfliobabMove4
namespace Go.Proofs.Ytkcododhfliobab
open Go Ieee Go.RowKit
set_option linter.unusedVariables false

def plainB (wd hi : Int) (sp : Nat) : Bool := sidesB wd hi && inB 1056964608 sp

theorem implCountN (wd hi : Int) (wr : Bool) (n : Nat) (w : World) (hn : wd * hi = n) (h2 : n ≤ 256) : Calls Try.prog 71 #[.agg #[.int .i64 wd, .int .i64 hi, .bool wr]] w fun e w' => e = .returned (.int .i64 n) ∧ Below w.heap.size w w' := by
  rw [← hn]; exact implCount wd hi wr w (by omega) (by omega)

theorem is_rep {n z : Nat} (hz : z < 2 ^ 32) (h : n ≤ 256) : Is (List.replicate n z) (cl (List.replicate n z)) := ⟨rfl, fun y hy => by rw [(List.mem_replicate.1 hy).2]; exact hz, by rw [List.length_replicate]; exact h⟩

theorem row_one {u : World} {g z : Nat} {t : TypeId} (V : Blk u g #[.float .f32 z] t) : RowV u (some ⟨g, 0, none⟩) (fvals [z]) := by
  intro i v hv
  have h1 := (List.getElem?_eq_some_iff.1 hv).1
  rw [fvals_length] at h1
  obtain rfl : i = 0 := by simp at h1; exact h1
  exact ⟨g, 0, rfl, (V.open.1 0).trans hv⟩

set_option maxHeartbeats 8000000 in
set_option maxRecDepth 100000 in
theorem implPlainSheetL (wd hi : Int) (wb : Bool) (sp : Nat) (w : World) (w0 : (Lit.int .i64 wd).wf = true) (w1 : (Lit.int .i64 hi).wf = true) (w3 : sp < 2 ^ 32) :
    Calls Try.prog 27 #[.int .i64 wd, .int .i64 hi, .bool wb, .float .f32 sp] w (GaveS w.heap.size w (plainB wd hi sp) wd hi wb (List.replicate (wd * hi).toNat sp) (List.replicate (wd * hi).toNat 0)) := by
  rcases hs : sidesB wd hi with _ | _
  · skip
    have HR : Hid (plainB wd hi sp = false) := Lib.hid (by unfold plainB; rw [hs]; rfl)
    rw [HR.out]; have H_s := Lib.hid hs; clear hs
    have R := Blk.new w #[.int .i64 0, .int .i64 0, .bool false, .slice none 0 0, .slice none 0 0] 32
    have H := Blk.new1 w (.cells #[.int .i64 0, .int .i64 0, .bool false, .slice none 0 0, .slice none 0 0] 32) #[.int .i64 wd, .int .i64 hi, .bool wb] 77
    replace R := R.alloc (.cells #[.int .i64 wd, .int .i64 hi, .bool wb] 77)
    have HB : Hid (Below w.heap.size w ((w.alloc (.cells #[.int .i64 0, .int .i64 0, .bool false, .slice none 0 0, .slice none 0 0] 32)).alloc (.cells #[.int .i64 wd, .int .i64 hi, .bool wb] 77))) := Lib.hid (((Below.refl w.heap.size w).alloc (by simp <;> omega) _).alloc (by simp <;> omega) _)
    go_enter Try.func27, Try.ntmps27
    go_wp2_with fail
    generalize ((w.alloc (.cells #[.int .i64 0, .int .i64 0, .bool false, .slice none 0 0, .slice none 0 0] 32)).alloc (.cells #[.int .i64 wd, .int .i64 hi, .bool wb] 77)) = u1 at *
    refine (implIsValid wd hi wb _).mono ?_
    rintro r u2 ⟨rfl, q⟩
    replace R := R.later q
    replace H := H.later q
    replace HB := Lib.hid (HB.out.trans (q.mono HB.out.size))
    clear q
    rw [H_s.out]
    obtain ⟨Rc, Rf⟩ := R.open
    go_wp2
    refine bodyPost_ret (v := .tuple #[.agg #[.int .i64 0, .int .i64 0, .bool false, .slice none 0 0, .slice none 0 0], .bool false]) (by simp [results, Try.results27, go_sem, Rc]) rfl ⟨none, none, 0, 0, [], [], rfl, GotSheet.none (((((HB.out.setCell (p := ⟨w.heap.size, 0, none⟩) (by first | omega | (simp <;> omega)) _).setCell (p := ⟨w.heap.size, 1, none⟩) (by first | omega | (simp <;> omega)) _).setCell (p := ⟨w.heap.size, 2, none⟩) (by first | omega | (simp <;> omega)) _).setCell (p := ⟨w.heap.size, 3, none⟩) (by first | omega | (simp <;> omega)) _).setCell (p := ⟨w.heap.size, 4, none⟩) (by first | omega | (simp <;> omega)) _)⟩
  rcases hp : inB 1056964608 sp with _ | _
  · skip
    have HR : Hid (plainB wd hi sp = false) := Lib.hid (by unfold plainB; rw [hs, hp]; rfl)
    rw [HR.out]; have H_s := Lib.hid hs; have H_i := Lib.hid hp; clear hs hp
    have R := Blk.new w #[.int .i64 0, .int .i64 0, .bool false, .slice none 0 0, .slice none 0 0] 32
    have H := Blk.new1 w (.cells #[.int .i64 0, .int .i64 0, .bool false, .slice none 0 0, .slice none 0 0] 32) #[.int .i64 wd, .int .i64 hi, .bool wb] 77
    replace R := R.alloc (.cells #[.int .i64 wd, .int .i64 hi, .bool wb] 77)
    have HB : Hid (Below w.heap.size w ((w.alloc (.cells #[.int .i64 0, .int .i64 0, .bool false, .slice none 0 0, .slice none 0 0] 32)).alloc (.cells #[.int .i64 wd, .int .i64 hi, .bool wb] 77))) := Lib.hid (((Below.refl w.heap.size w).alloc (by simp <;> omega) _).alloc (by simp <;> omega) _)
    go_enter Try.func27, Try.ntmps27
    go_wp2_with fail
    generalize ((w.alloc (.cells #[.int .i64 0, .int .i64 0, .bool false, .slice none 0 0, .slice none 0 0] 32)).alloc (.cells #[.int .i64 wd, .int .i64 hi, .bool wb] 77)) = u1 at *
    refine (implIsValid wd hi wb _).mono ?_
    rintro r u2 ⟨rfl, q⟩
    replace R := R.later q
    replace H := H.later q
    replace HB := Lib.hid (HB.out.trans (q.mono HB.out.size))
    clear q
    rw [H_s.out]
    obtain ⟨Hc, Hf⟩ := H.open
    go_wp2_with fail
    refine (impl_isSpeed sp _).mono ?_
    rintro r uu3 ⟨rfl, rfl⟩
    rw [H_i.out]
    clear Hc Hf
    obtain ⟨Rc, Rf⟩ := R.open
    go_wp2
    refine bodyPost_ret (v := .tuple #[.agg #[.int .i64 0, .int .i64 0, .bool false, .slice none 0 0, .slice none 0 0], .bool false]) (by simp [results, Try.results27, go_sem, Rc]) rfl ⟨none, none, 0, 0, [], [], rfl, GotSheet.none (((((HB.out.setCell (p := ⟨w.heap.size, 0, none⟩) (by first | omega | (simp <;> omega)) _).setCell (p := ⟨w.heap.size, 1, none⟩) (by first | omega | (simp <;> omega)) _).setCell (p := ⟨w.heap.size, 2, none⟩) (by first | omega | (simp <;> omega)) _).setCell (p := ⟨w.heap.size, 3, none⟩) (by first | omega | (simp <;> omega)) _).setCell (p := ⟨w.heap.size, 4, none⟩) (by first | omega | (simp <;> omega)) _)⟩
  have HR : Hid (plainB wd hi sp = true) := Lib.hid (by unfold plainB; rw [hs, hp]; rfl)
  rw [HR.out]; have H_s := Lib.hid hs; have H_i := Lib.hid hp
  obtain ⟨s1, s2, s3, s4, t1, t2⟩ := sides_mul hs
  obtain ⟨n, hn⟩ := Int.eq_ofNat_of_zero_le (show 0 ≤ wd * hi by omega)
  have n256 : n ≤ 256 := by omega
  have n9 : 0 < n := by omega
  have e9 : (wd * hi).toNat = n := by omega
  rw [e9]
  have HN := Lib.hid hn; clear hs hp hn e9 t1 t2
  have R := Blk.new w #[.int .i64 0, .int .i64 0, .bool false, .slice none 0 0, .slice none 0 0] 32
  have H := Blk.new1 w (.cells #[.int .i64 0, .int .i64 0, .bool false, .slice none 0 0, .slice none 0 0] 32) #[.int .i64 wd, .int .i64 hi, .bool wb] 77
  replace R := R.alloc (.cells #[.int .i64 wd, .int .i64 hi, .bool wb] 77)
  have HB : Hid (Below w.heap.size w ((w.alloc (.cells #[.int .i64 0, .int .i64 0, .bool false, .slice none 0 0, .slice none 0 0] 32)).alloc (.cells #[.int .i64 wd, .int .i64 hi, .bool wb] 77))) := Lib.hid (((Below.refl w.heap.size w).alloc (by simp <;> omega) _).alloc (by simp <;> omega) _)
  go_enter Try.func27, Try.ntmps27
  go_wp2_with fail
  generalize ((w.alloc (.cells #[.int .i64 0, .int .i64 0, .bool false, .slice none 0 0, .slice none 0 0] 32)).alloc (.cells #[.int .i64 wd, .int .i64 hi, .bool wb] 77)) = u1 at *
  refine (implIsValid wd hi wb _).mono ?_
  rintro r u2 ⟨rfl, q⟩
  replace R := R.later q
  replace H := H.later q
  replace HB := Lib.hid (HB.out.trans (q.mono HB.out.size))
  clear q
  rw [H_s.out]
  obtain ⟨Hc, Hf⟩ := H.open
  go_wp2_with fail
  refine (impl_isSpeed sp _).mono ?_
  rintro r uu3 ⟨rfl, rfl⟩
  rw [H_i.out]
  have H1 := H.alloc (.cells #[.float .f32 sp] 40); obtain ⟨h1c, h1f⟩ := H1.open
  clear Hc Hf
  obtain ⟨Hc, Hf⟩ := H.open
  go_wp2_with fail
  clear h1c h1f H1
  have V := Blk.new u2 #[.float .f32 sp] 40
  have q := below_new u2 (.cells #[.float .f32 sp] 40)
  clear Hc Hf
  replace R := R.later q
  replace H := H.later q
  replace HB := Lib.hid (HB.out.trans (q.mono HB.out.size))
  clear q
  have gv : ∃ gv, gv = u2.heap.size := ⟨_, rfl⟩
  obtain ⟨gv, hgv⟩ := gv; rw [← hgv] at V ⊢; clear hgv
  generalize u2.alloc (.cells #[.float .f32 sp] 40) = ua at *
  refine (implCountN wd hi wb n _ HN.out n256).mono ?_
  rintro r u11 ⟨rfl, q⟩
  replace R := R.later q
  replace H := H.later q
  replace V := V.later q
  replace HB := Lib.hid (HB.out.trans (q.mono HB.out.size))
  clear q
  have zB1 := HB.out.size; have zR1 := R.lt
  obtain ⟨Hc, Hf⟩ := H.open
  go_wp2_with fail
  refine (implRepeat sp _ _ n _ (row_one V) n9 n256).mono ?_
  rintro r u12 ⟨g, rfl, o0, q⟩
  clear Hc Hf
  replace R := R.later q
  replace H := H.later q
  replace V := V.later q
  replace HB := Lib.hid (HB.out.trans (q.mono HB.out.size))
  clear q
  have O0 := Lib.hid o0; clear o0
  have zo := O0.out.span _ rfl; dsimp only at zo
  have zB2 := HB.out.size; have zR2 := R.lt
  obtain ⟨Hc, Hf⟩ := H.open
  go_wp2_with fail
  refine (implZeros wd hi wb n _ HN.out n256).mono ?_
  rintro r u13 ⟨g2, rfl, o2, q, hl2⟩
  clear Hc Hf
  replace R := R.later q
  replace H := H.later q
  replace V := V.later q
  replace O0 := Lib.hid (O0.out.later q)
  replace HB := Lib.hid (HB.out.trans (q.mono HB.out.size))
  clear q
  have zR := R.lt; have zB := HB.out.size
  have zo2 := o2.span _ rfl; dsimp only at zo2
  obtain ⟨Rc, Rf⟩ := R.open
  go_wp2
  refine bodyPost_ret (v := .tuple #[.agg #[.int .i64 wd, .int .i64 hi, .bool wb, .slice (some ⟨g, 0, none⟩) n n, .slice (some ⟨g2, 0, none⟩) n n], .bool true]) (by simp [results, Try.results27, go_sem, Rc]) rfl ⟨some ⟨g, 0, none⟩, some ⟨g2, 0, none⟩, n, n, List.replicate n sp, List.replicate n 0, by rw [List.length_replicate, List.length_replicate]; rfl, ⟨(((((((O0.out).lower (show w.heap.size ≤ _ by omega)).set (p := ⟨w.heap.size, 0, none⟩) (ne_block (h := w.heap.size) (by omega)) _).set (p := ⟨w.heap.size, 1, none⟩) (ne_block (h := w.heap.size) (by omega)) _).set (p := ⟨w.heap.size, 2, none⟩) (ne_block (h := w.heap.size) (by omega)) _).set (p := ⟨w.heap.size, 3, none⟩) (ne_block (h := w.heap.size) (by omega)) _).set (p := ⟨w.heap.size, 4, none⟩) (ne_block (h := w.heap.size) (by omega)) _), (((((((o2).lower (show w.heap.size ≤ _ by omega)).set (p := ⟨w.heap.size, 0, none⟩) (ne_block (h := w.heap.size) (by omega)) _).set (p := ⟨w.heap.size, 1, none⟩) (ne_block (h := w.heap.size) (by omega)) _).set (p := ⟨w.heap.size, 2, none⟩) (ne_block (h := w.heap.size) (by omega)) _).set (p := ⟨w.heap.size, 3, none⟩) (ne_block (h := w.heap.size) (by omega)) _).set (p := ⟨w.heap.size, 4, none⟩) (ne_block (h := w.heap.size) (by omega)) _), apart_ne (by omega), is_rep w3 n256, is_rep (by decide) n256, (((((HB.out.setCell (p := ⟨w.heap.size, 0, none⟩) (by first | omega | (simp <;> omega)) _).setCell (p := ⟨w.heap.size, 1, none⟩) (by first | omega | (simp <;> omega)) _).setCell (p := ⟨w.heap.size, 2, none⟩) (by first | omega | (simp <;> omega)) _).setCell (p := ⟨w.heap.size, 3, none⟩) (by first | omega | (simp <;> omega)) _).setCell (p := ⟨w.heap.size, 4, none⟩) (by first | omega | (simp <;> omega)) _)⟩⟩

end Go.Proofs.Ytkcododhfliobab
