/- Sheets that are plain: the model's answer. Conditions: none beyond those of each theorem. -/
import Derived.Test.YtkcododhfliobabPlain
import Derived.Test.YtkcododhfliobabBu7
import Derived.Deep.AppendLies
namespace Go.Proofs.Ytkcododhfliobab
open Go Ieee Go.RowKit
set_option linter.unusedVariables false

section
variable {wr w9 : World} {s i j g c0 c1 : Nat} {a0 a1 : Option Addr} {vs0 vs1 : List Value} {e : TypeId} {ob : Obj}

theorem own_keep (h0 : wr.ownsRow s e 1 (.slice a0 i c0) i vs0) (h1 : wr.ownsRow s e 1 (.slice a1 j c1) j vs1) (ha : Apart a0 a1) (hg : (wr.alloc ob).grownBy w9 (Value.slice a0 i c0).ownBlock) : w9.ownsRow s e 1 (.slice a1 j c1) j vs1 := by
  refine (h1.alloc ob).kept hg ?_
  rcases a1 with _ | y
  · exact .inl rfl
  · refine .inr (fun h => ?_)
    rcases a0 with _ | x
    · cases h
    · exact ha x y rfl rfl (Option.some.inj h).symm

theorem own_apart (h1 : wr.ownsRow s e 1 (.slice a1 j c1) j vs1) (ha : Apart a0 a1) (hat : (Value.slice a0 i c0).ownBlock = some g ∨ g = wr.heap.size + 1) : Apart (some ⟨g, 0, none⟩) a1 := by
  intro x y hx hy
  cases hx
  rcases hat with h | h
  · rcases a0 with _ | x
    · cases h
    · have := ha x y rfl hy
      rw [← Option.some.inj h]; exact this
  · subst hy
    have := (h1.lt y.block rfl).2
    show g ≠ y.block
    omega

theorem own_box {q : Nat} {cs : Array Value} {t : TypeId} (X : Blk wr q cs t) (h0 : wr.ownsRow s e 1 (.slice a0 i c0) i vs0) (hq : q < s) (hg : (wr.alloc ob).grownBy w9 (Value.slice a0 i c0).ownBlock) : Blk w9 q cs t :=
  (X.alloc ob).grown hg (fun h => by have := (h0.lt _ h.symm).1; omega)

theorem own_below {w : World} {B : Nat} (hb : Below B w wr) (hB : B ≤ w.heap.size) (h0 : wr.ownsRow s e 1 (.slice a0 i c0) i vs0) (hs : B ≤ s) (hg : (wr.alloc ob).grownBy w9 (Value.slice a0 i c0).ownBlock) : Below B w w9 := by
  have hz := hb.size
  exact (hb.alloc (by omega) ob).grown hg (by simp; omega) (fun k hk => by have := (h0.lt k hk).1; omega)

theorem own_setb {q p : Nat} {v : Value} (h0 : wr.ownsRow s e 1 (.slice a0 i c0) i vs0) (hq : q < s) : (wr.setCell ⟨q, p, none⟩ v).ownsRow s e 1 (.slice a0 i c0) i vs0 := by
  refine h0.kept (grown_set (grown_refl wr (some q)) p v) ?_
  rcases a0 with _ | x
  · exact .inl rfl
  · refine .inr (fun h => ?_)
    have := (h0.lt _ rfl).1
    have h2 := Option.some.inj h
    omega
end

theorem fvals_app {k z : Nat} : fvals (List.replicate k z) ++ [.float .f32 z] = fvals (List.replicate (k + 1) z) := by
  unfold fvals; rw [List.replicate_succ', List.map_append]; rfl

set_option maxHeartbeats 8000000 in
set_option maxRecDepth 100000 in
theorem specPlainSheetG (wd hi : Int) (wb : Bool) (sp : Nat) (w : World) (w0 : (Lit.int .i64 wd).wf = true) (w1 : (Lit.int .i64 hi).wf = true) (w3 : sp < 2 ^ 32) :
    Calls Try.prog 26 #[.int .i64 wd, .int .i64 hi, .bool wb, .float .f32 sp] w (GaveS w.heap.size w (plainB wd hi sp) wd hi wb (List.replicate (wd * hi).toNat sp) (List.replicate (wd * hi).toNat 0)) := by
  have hpl : plainB wd hi sp = (sidesB wd hi && (geB sp 0 && !gtB sp 1056964608)) := rfl
  have HPL := Lib.hid hpl; clear hpl
  rcases hs : sidesB wd hi with _ | _
  · skip
    have HR : Hid (plainB wd hi sp = false) := Lib.hid (by rw [HPL.out, hs]; rfl)
    rw [HR.out]; have H_s := Lib.hid hs; clear hs
    have R := Blk.new w #[.int .i64 0, .int .i64 0, .bool false, .slice none 0 0, .slice none 0 0] 32
    have HB : Hid (Below w.heap.size w (w.alloc (.cells #[.int .i64 0, .int .i64 0, .bool false, .slice none 0 0, .slice none 0 0] 32))) := Lib.hid ((Below.refl w.heap.size w).alloc (by simp <;> omega) _)
    go_enter Try.func26, Try.ntmps26
    go_wp2_with fail
    generalize (w.alloc (.cells #[.int .i64 0, .int .i64 0, .bool false, .slice none 0 0, .slice none 0 0] 32)) = u1 at *
    refine (specSides wd hi _).mono ?_
    rintro r uu ⟨rfl, rfl⟩
    rw [H_s.out]
    obtain ⟨Rc, Rf⟩ := R.open
    go_wp2
    refine bodyPost_ret (v := .tuple #[.agg #[.int .i64 0, .int .i64 0, .bool false, .slice none 0 0, .slice none 0 0], .bool false]) (by simp [results, Try.results26, go_sem, Rc]) rfl ⟨none, none, 0, 0, [], [], rfl, GotSheet.none (((((HB.out.setCell (p := ⟨w.heap.size, 0, none⟩) (by first | omega | (simp <;> omega)) _).setCell (p := ⟨w.heap.size, 1, none⟩) (by first | omega | (simp <;> omega)) _).setCell (p := ⟨w.heap.size, 2, none⟩) (by first | omega | (simp <;> omega)) _).setCell (p := ⟨w.heap.size, 3, none⟩) (by first | omega | (simp <;> omega)) _).setCell (p := ⟨w.heap.size, 4, none⟩) (by first | omega | (simp <;> omega)) _)⟩
  rcases hp : geB sp 0 with _ | _
  · skip
    have HR : Hid (plainB wd hi sp = false) := Lib.hid (by rw [HPL.out, hs, hp]; rfl)
    rw [HR.out]; have H_s := Lib.hid hs; clear hs; unfold geB at hp
    have R := Blk.new w #[.int .i64 0, .int .i64 0, .bool false, .slice none 0 0, .slice none 0 0] 32
    have HB : Hid (Below w.heap.size w (w.alloc (.cells #[.int .i64 0, .int .i64 0, .bool false, .slice none 0 0, .slice none 0 0] 32))) := Lib.hid ((Below.refl w.heap.size w).alloc (by simp <;> omega) _)
    go_enter Try.func26, Try.ntmps26
    go_wp2_with fail
    generalize (w.alloc (.cells #[.int .i64 0, .int .i64 0, .bool false, .slice none 0 0, .slice none 0 0] 32)) = u1 at *
    refine (specSides wd hi _).mono ?_
    rintro r uu ⟨rfl, rfl⟩
    rw [H_s.out]
    obtain ⟨Rc, Rf⟩ := R.open
    go_wp2
    refine bodyPost_ret (v := .tuple #[.agg #[.int .i64 0, .int .i64 0, .bool false, .slice none 0 0, .slice none 0 0], .bool false]) (by simp [results, Try.results26, go_sem, Rc]) rfl ⟨none, none, 0, 0, [], [], rfl, GotSheet.none (((((HB.out.setCell (p := ⟨w.heap.size, 0, none⟩) (by first | omega | (simp <;> omega)) _).setCell (p := ⟨w.heap.size, 1, none⟩) (by first | omega | (simp <;> omega)) _).setCell (p := ⟨w.heap.size, 2, none⟩) (by first | omega | (simp <;> omega)) _).setCell (p := ⟨w.heap.size, 3, none⟩) (by first | omega | (simp <;> omega)) _).setCell (p := ⟨w.heap.size, 4, none⟩) (by first | omega | (simp <;> omega)) _)⟩
  rcases hq : gtB sp 1056964608 with _ | _
  rotate_left
  · skip
    have HR : Hid (plainB wd hi sp = false) := Lib.hid (by rw [HPL.out, hs, hp, hq]; rfl)
    rw [HR.out]; have H_s := Lib.hid hs; clear hs; unfold geB at hp; unfold gtB at hq
    have R := Blk.new w #[.int .i64 0, .int .i64 0, .bool false, .slice none 0 0, .slice none 0 0] 32
    have HB : Hid (Below w.heap.size w (w.alloc (.cells #[.int .i64 0, .int .i64 0, .bool false, .slice none 0 0, .slice none 0 0] 32))) := Lib.hid ((Below.refl w.heap.size w).alloc (by simp <;> omega) _)
    go_enter Try.func26, Try.ntmps26
    go_wp2_with fail
    generalize (w.alloc (.cells #[.int .i64 0, .int .i64 0, .bool false, .slice none 0 0, .slice none 0 0] 32)) = u1 at *
    refine (specSides wd hi _).mono ?_
    rintro r uu ⟨rfl, rfl⟩
    rw [H_s.out]
    obtain ⟨Rc, Rf⟩ := R.open
    go_wp2
    refine bodyPost_ret (v := .tuple #[.agg #[.int .i64 0, .int .i64 0, .bool false, .slice none 0 0, .slice none 0 0], .bool false]) (by simp [results, Try.results26, go_sem, Rc]) rfl ⟨none, none, 0, 0, [], [], rfl, GotSheet.none (((((HB.out.setCell (p := ⟨w.heap.size, 0, none⟩) (by first | omega | (simp <;> omega)) _).setCell (p := ⟨w.heap.size, 1, none⟩) (by first | omega | (simp <;> omega)) _).setCell (p := ⟨w.heap.size, 2, none⟩) (by first | omega | (simp <;> omega)) _).setCell (p := ⟨w.heap.size, 3, none⟩) (by first | omega | (simp <;> omega)) _).setCell (p := ⟨w.heap.size, 4, none⟩) (by first | omega | (simp <;> omega)) _)⟩
  have HR : Hid (plainB wd hi sp = true) := Lib.hid (by rw [HPL.out, hs, hp, hq]; rfl)
  rw [HR.out]; have H_s := Lib.hid hs
  obtain ⟨s1, s2, s3, s4, t1, t2⟩ := sides_mul hs
  obtain ⟨n, hn⟩ := Int.eq_ofNat_of_zero_le (show 0 ≤ wd * hi by omega)
  have n256 : n ≤ 256 := by omega
  have e9 : (wd * hi).toNat = n := by omega
  rw [e9]
  have HN := Lib.hid hn; clear hs hn e9 t1 t2; unfold geB at hp; unfold gtB at hq
  obtain ⟨ti, hi0, hz0, hz1, hz2⟩ := info_parts Try.infoF32
  have HI := Lib.hid hi0; have HZ0 := Lib.hid hz0; have HZ1 := Lib.hid hz1; have HZ2 := Lib.hid hz2; clear hi0 hz0 hz1 hz2
  have R := Blk.new w #[.int .i64 0, .int .i64 0, .bool false, .slice none 0 0, .slice none 0 0] 32
  have HB : Hid (Below w.heap.size w (w.alloc (.cells #[.int .i64 0, .int .i64 0, .bool false, .slice none 0 0, .slice none 0 0] 32))) := Lib.hid ((Below.refl w.heap.size w).alloc (by simp <;> omega) _)
  go_enter Try.func26, Try.ntmps26
  go_wp2_with fail
  generalize (w.alloc (.cells #[.int .i64 0, .int .i64 0, .bool false, .slice none 0 0, .slice none 0 0] 32)) = u1 at *
  refine (specSides wd hi _).mono ?_
  rintro r uu ⟨rfl, rfl⟩
  rw [H_s.out]
  have X := Blk.new u1 #[.int .i64 wd, .int .i64 hi, .bool wb, .slice none 0 0, .slice none 0 0] 32
  have zR := R.lt
  go_upto_region 4 with (fail)
  have R1 := R.alloc (.cells #[.int .i64 wd, .int .i64 hi, .bool wb, .slice none 0 0, .slice none 0 0] 32); have HB1 := Lib.hid (HB.out.alloc HB.out.size (.cells #[.int .i64 wd, .int .i64 hi, .bool wb, .slice none 0 0, .slice none 0 0] 32)); clear R HB
  have zq := HB1.out.size
  have hq8 : ∃ q, q = u1.heap.size := ⟨_, rfl⟩
  obtain ⟨q, hq8⟩ := hq8; rw [← hq8] at X zR ⊢; clear hq8
  generalize u1.alloc (.cells #[.int .i64 wd, .int .i64 hi, .bool wb, .slice none 0 0, .slice none 0 0] 32) = u2 at *
  have hmul : IntKind.i64.wrap (wd * hi) = (n : Int) := by rw [HN.out, IntKind.wrap_i64]; omega
  go_wp2
  go_loopw [11] (fun iv wr => ∃ (k : Nat) (a0 a1 : Option Addr) (c0 c1 : Nat), k ≤ n ∧ iv = .int .i64 k ∧ Blk wr q #[.int .i64 wd, .int .i64 hi, .bool wb, .slice a0 k c0, .slice a1 k c1] 32 ∧ wr.ownsRow (q + 1) 40 1 (.slice a0 k c0) k (fvals (List.replicate k sp)) ∧ wr.ownsRow (q + 1) 40 1 (.slice a1 k c1) k (fvals (List.replicate k 0)) ∧ Apart a0 a1 ∧ Blk wr w.heap.size #[.int .i64 0, .int .i64 0, .bool false, .slice none 0 0, .slice none 0 0] 32 ∧ Below w.heap.size w wr) (fun iv _ => n - (intOf iv).toNat)
  case atStart => exact ⟨0, none, none, 0, 0, Nat.zero_le _, rfl, X, World.ownsRow_nil _ _ _ _, World.ownsRow_nil _ _ _ _, Apart.nil _, R1, HB1.out⟩
  case round =>
    clear X R1 HB1
    obtain ⟨k, a0, a1, c0, c1, hk, rfl, X, hO0, hO1, hA, R, hB⟩ := hrel
    have O0 := Lib.hid hO0; have O1 := Lib.hid hO1; have AP := Lib.hid hA; have HB := Lib.hid hB; clear hO0 hO1 hA hB
    obtain ⟨Xc, Xf⟩ := X.open
    by_cases hlt : k < n
    · skip
      have hki : ((k : Nat) : Int) < (n : Int) := by omega
      go_upto_region 8 with ((refine wpList_append_lies _ rfl _ _ 22 rfl (q + 1) 40 ti (.float .f32 0) 1 4 Try.underlying22 HI.out HZ0.out HZ1.out HZ2.out rfl (by decide) (.slice a0 k c0) k (fvals (List.replicate k sp)) rfl (O0.out.alloc _) ⟨wr.heap.size, 0, none⟩ 1 1 [.float .f32 sp] rfl rfl (one_news _ _) (one_cells _) (by decide) (by unfold maxLen; omega) (by omega) (by have := X.lt; simp; omega) (wr.heap.size + 1) (by simp) ?_; intro g0 d0 w9 hown hgrow hat hlt9; have On := Lib.hid (own_keep O0.out O1.out AP.out hgrow); have APn := Lib.hid (own_apart O1.out AP.out hat); have Xn := own_box X O0.out (Nat.lt_succ_self q) hgrow; have Rn := own_box R O0.out (by omega) hgrow; have HBn := Lib.hid (own_below HB.out (Nat.le_refl _) O0.out (by omega) hgrow); rw [fvals_app] at hown; have Om := Lib.hid hown; clear hown hgrow hat hlt9 Xc Xf; obtain ⟨Xc, Xf⟩ := Xn.open))
      clear X R HB O0 O1 AP
      have X : Blk (w9.setCell ⟨q, 3, none⟩ (.slice (some ⟨g0, 0, none⟩) (k + 1) d0)) q #[.int .i64 wd, .int .i64 hi, .bool wb, .slice (some ⟨g0, 0, none⟩) (k + 1) d0, .slice a1 k c1] 32 := Xn.set 3 (.slice (some ⟨g0, 0, none⟩) (k + 1) d0)
      have R := Rn.setOther (p := ⟨q, 3, none⟩) (by dsimp only; omega) (.slice (some ⟨g0, 0, none⟩) (k + 1) d0)
      have O0 := Lib.hid (own_setb (q := q) (p := 3) (v := (.slice (some ⟨g0, 0, none⟩) (k + 1) d0)) Om.out (Nat.lt_succ_self q))
      have O1 := Lib.hid (own_setb (q := q) (p := 3) (v := (.slice (some ⟨g0, 0, none⟩) (k + 1) d0)) On.out (Nat.lt_succ_self q))
      have AP := Lib.hid APn.out
      have HB := Lib.hid (HBn.out.setCell (p := ⟨q, 3, none⟩) (by dsimp only; omega) (.slice (some ⟨g0, 0, none⟩) (k + 1) d0))
      clear Xc Xf Xn Rn Om On APn HBn
      generalize (w9.setCell ⟨q, 3, none⟩ (.slice (some ⟨g0, 0, none⟩) (k + 1) d0)) = wa at *
      obtain ⟨Xc, Xf⟩ := X.open
      go_upto_region 6 with ((refine wpList_append_lies _ rfl _ _ 22 rfl (q + 1) 40 ti (.float .f32 0) 1 4 Try.underlying22 HI.out HZ0.out HZ1.out HZ2.out rfl (by decide) (.slice a1 k c1) k (fvals (List.replicate k 0)) rfl (O1.out.alloc _) ⟨wa.heap.size, 0, none⟩ 1 1 [.float .f32 0] rfl rfl (one_news _ _) (one_cells _) (by decide) (by unfold maxLen; omega) (by omega) (by have := X.lt; simp; omega) (wa.heap.size + 1) (by simp) ?_; intro g1 d1 w9 hown hgrow hat hlt9; have On := Lib.hid (own_keep O1.out O0.out AP.out.symm hgrow); have APn := Lib.hid (own_apart O0.out AP.out.symm hat); have Xn := own_box X O1.out (Nat.lt_succ_self q) hgrow; have Rn := own_box R O1.out (by omega) hgrow; have HBn := Lib.hid (own_below HB.out (Nat.le_refl _) O1.out (by omega) hgrow); rw [fvals_app] at hown; have Om := Lib.hid hown; clear hown hgrow hat hlt9 Xc Xf; obtain ⟨Xc, Xf⟩ := Xn.open))
      clear X R HB O0 O1 AP
      have X : Blk (w9.setCell ⟨q, 4, none⟩ (.slice (some ⟨g1, 0, none⟩) (k + 1) d1)) q #[.int .i64 wd, .int .i64 hi, .bool wb, .slice (some ⟨g0, 0, none⟩) (k + 1) d0, .slice (some ⟨g1, 0, none⟩) (k + 1) d1] 32 := Xn.set 4 (.slice (some ⟨g1, 0, none⟩) (k + 1) d1)
      have R := Rn.setOther (p := ⟨q, 4, none⟩) (by dsimp only; omega) (.slice (some ⟨g1, 0, none⟩) (k + 1) d1)
      have O1 := Lib.hid (own_setb (q := q) (p := 4) (v := (.slice (some ⟨g1, 0, none⟩) (k + 1) d1)) Om.out (Nat.lt_succ_self q))
      have O0 := Lib.hid (own_setb (q := q) (p := 4) (v := (.slice (some ⟨g1, 0, none⟩) (k + 1) d1)) On.out (Nat.lt_succ_self q))
      have AP := Lib.hid APn.out.symm
      have HB := Lib.hid (HBn.out.setCell (p := ⟨q, 4, none⟩) (by dsimp only; omega) (.slice (some ⟨g1, 0, none⟩) (k + 1) d1))
      clear Xc Xf Xn Rn Om On APn HBn
      generalize (w9.setCell ⟨q, 4, none⟩ (.slice (some ⟨g1, 0, none⟩) (k + 1) d1)) = wb9 at *
      obtain ⟨Xc, Xf⟩ := X.open
      go_wp2
      go_roundw
      case rel => exact ⟨k + 1, _, _, _, _, by omega, by go_num, X, O0.out, O1.out, AP.out, R, HB.out⟩
      case measure => simp [intOf]; omega
    · skip
      obtain rfl : k = n := by omega
      obtain ⟨Rc, Rf⟩ := R.open
      go_wp2
      refine bodyPost_ret (v := .tuple #[.agg #[.int .i64 wd, .int .i64 hi, .bool wb, .slice a0 k c0, .slice a1 k c1], .bool true]) (by simp [results, Try.results26, go_sem, Rc]) rfl ⟨a0, a1, c0, c1, List.replicate k sp, List.replicate k 0, by rw [List.length_replicate, List.length_replicate]; rfl, ⟨(((((((OwnV.of_owned O0.out).lower (show w.heap.size ≤ _ by omega)).set (p := ⟨w.heap.size, 0, none⟩) (fun x hx => by (have h9 := (O0.out.lt x.block (by rw [hx]; rfl)).1); show x.block ≠ w.heap.size; omega) _).set (p := ⟨w.heap.size, 1, none⟩) (fun x hx => by (have h9 := (O0.out.lt x.block (by rw [hx]; rfl)).1); show x.block ≠ w.heap.size; omega) _).set (p := ⟨w.heap.size, 2, none⟩) (fun x hx => by (have h9 := (O0.out.lt x.block (by rw [hx]; rfl)).1); show x.block ≠ w.heap.size; omega) _).set (p := ⟨w.heap.size, 3, none⟩) (fun x hx => by (have h9 := (O0.out.lt x.block (by rw [hx]; rfl)).1); show x.block ≠ w.heap.size; omega) _).set (p := ⟨w.heap.size, 4, none⟩) (fun x hx => by (have h9 := (O0.out.lt x.block (by rw [hx]; rfl)).1); show x.block ≠ w.heap.size; omega) _), (((((((OwnV.of_owned O1.out).lower (show w.heap.size ≤ _ by omega)).set (p := ⟨w.heap.size, 0, none⟩) (fun x hx => by (have h9 := (O1.out.lt x.block (by rw [hx]; rfl)).1); show x.block ≠ w.heap.size; omega) _).set (p := ⟨w.heap.size, 1, none⟩) (fun x hx => by (have h9 := (O1.out.lt x.block (by rw [hx]; rfl)).1); show x.block ≠ w.heap.size; omega) _).set (p := ⟨w.heap.size, 2, none⟩) (fun x hx => by (have h9 := (O1.out.lt x.block (by rw [hx]; rfl)).1); show x.block ≠ w.heap.size; omega) _).set (p := ⟨w.heap.size, 3, none⟩) (fun x hx => by (have h9 := (O1.out.lt x.block (by rw [hx]; rfl)).1); show x.block ≠ w.heap.size; omega) _).set (p := ⟨w.heap.size, 4, none⟩) (fun x hx => by (have h9 := (O1.out.lt x.block (by rw [hx]; rfl)).1); show x.block ≠ w.heap.size; omega) _), AP.out, is_rep w3 n256, is_rep (by decide) n256, (((((HB.out.setCell (p := ⟨w.heap.size, 0, none⟩) (by first | omega | (simp <;> omega)) _).setCell (p := ⟨w.heap.size, 1, none⟩) (by first | omega | (simp <;> omega)) _).setCell (p := ⟨w.heap.size, 2, none⟩) (by first | omega | (simp <;> omega)) _).setCell (p := ⟨w.heap.size, 3, none⟩) (by first | omega | (simp <;> omega)) _).setCell (p := ⟨w.heap.size, 4, none⟩) (by first | omega | (simp <;> omega)) _)⟩⟩

theorem specPlainSheetL (wd hi : Int) (wb : Bool) (sp : Nat) (w : World) (w0 : (Lit.int .i64 wd).wf = true) (w1 : (Lit.int .i64 hi).wf = true) (w3 : sp < 2 ^ 32) :
    Calls Try.prog 26 #[.int .i64 wd, .int .i64 hi, .bool wb, .float .f32 sp] w (HasS w (plainB wd hi sp) wd hi wb (List.replicate (wd * hi).toNat sp) (List.replicate (wd * hi).toNat 0)) :=
  (specPlainSheetG wd hi wb sp w w0 w1 w3).mono fun _ _ h => h.has

end Go.Proofs.Ytkcododhfliobab
