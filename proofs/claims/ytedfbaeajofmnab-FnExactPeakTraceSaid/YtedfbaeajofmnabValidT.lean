/- Steps keep a field of a sheet a field of it; the greatest of numbers that are the same numbers. Conditions: none beyond those of each theorem. -/
import Derived.Test.YtedfbaeajofmnabBu22
import Derived.Test.YtedfbaeajofmnabBu10
import Derived.Test.YtedfbaeajofmnabBu15
namespace Go.Proofs.Ytedfbaeajofmnab
open Go Ieee Go.RowKit
set_option linter.unusedVariables false

theorem runT_bord {wb : Bool} {m k i : Nat} {S L : Nat → Option Nat} {t : Trip} (h : bordB wb (m : Int) (k : Int) ((i % m : Nat) : Int) ((i / m : Nat) : Int) = true) : ∀ j, (runT wb m k S L t j).e i = t.e i
  | 0 => rfl
  | j + 1 => by
    have ih := runT_bord (S := S) (L := L) (t := t) h j
    rw [← ih]
    show stE wb m k S L (runT wb m k S L t j).e (runT wb m k S L t j).x (runT wb m k S L t j).y i = _
    unfold stE restE
    rw [if_pos h]
theorem runT_below {wb : Bool} {m k i : Nat} {S L : Nat → Option Nat} {t : Trip} (h : belowB wb (k : Int) ((i / m : Nat) : Int) = true) : ∀ j, (runT wb m k S L t j).x i = t.x i
  | 0 => rfl
  | j + 1 => by
    have ih := runT_below (S := S) (L := L) (t := t) h j
    rw [← ih]
    show halfX wb m k (runT wb m k S L t j).e (runT wb m k S L t j).x i = _
    unfold halfX
    rw [if_pos h]
theorem runT_beside {wb : Bool} {m k i : Nat} {S L : Nat → Option Nat} {t : Trip} (h : besideB wb (m : Int) ((i % m : Nat) : Int) = true) : ∀ j, (runT wb m k S L t j).y i = t.y i
  | 0 => rfl
  | j + 1 => by
    have ih := runT_beside (k := k) (S := S) (L := L) (t := t) h j
    rw [← ih]
    show halfY wb m k (runT wb m k S L t j).e (runT wb m k S L t j).y i = _
    unfold halfY
    rw [if_pos h]

theorem zin_same {p : Int → Int → Bool} {wd : Int} {e e1 : List Nat} (hl : e1.length = e.length) (h : ∀ i, i < e.length → p ((i : Int) % wd) ((i : Int) / wd) = true → canon .f32 (e1.getD i 0) = canon .f32 (e.getD i 0)) (hz : zin p wd e = true) : zin p wd e1 = true :=
  zin_true fun i hi => by
    unfold zin at hz
    rw [List.all_eq_true] at hz
    have h1 := hz i (List.mem_range.2 (by omega))
    rcases hp : p ((i : Int) % wd) ((i : Int) / wd) with _ | _
    · rw [Bool.and_false]
    · rw [nzB_canon (h i (by omega) hp)]
      rw [hp] at h1
      simpa using h1

/-- a field behind steps is a field of the sheet -/
theorem run_field {m k n j : Nat} {wb : Bool} {xs ys e x y e1 x1 y1 : List Nat} (hf : fieldB (m : Int) (k : Int) wb xs ys e x y = true) (hn : n = m * k) (l0 : e.length = n) (l1 : x.length = n) (l2 : y.length = n) (t : TAg n e1 x1 y1 (runT wb m k (nums xs) (nums ys) ⟨nums e, nums x, nums y⟩ j)) : fieldB (m : Int) (k : Int) wb xs ys e1 x1 y1 = true := by
  unfold fieldB fitsB at hf ⊢
  simp only [Bool.and_eq_true, decide_eq_true_eq] at hf ⊢
  obtain ⟨hv, ⟨g0, g1, g2⟩, z0, z1, z2⟩ := hf
  refine ⟨hv, ⟨by rw [t.e.1, ← l0]; exact g0, by rw [t.x.1, ← l1]; exact g1, by rw [t.y.1, ← l2]; exact g2⟩, ?_, ?_, ?_⟩
  · exact zin_same (by rw [t.e.1, l0]) (fun i hi hp => (t.e.2.2 i (by omega)).trans (runT_bord hp j)) z0
  · exact zin_same (by rw [t.x.1, l1]) (fun i hi hp => (t.x.2.2 i (by omega)).trans (runT_below hp j)) z1
  · exact zin_same (by rw [t.y.1, l2]) (fun i hi hp => (t.y.2.2 i (by omega)).trans (runT_beside hp j)) z2

theorem isN_canon {x y : Nat} (h : canon .f32 x = canon .f32 y) : isN .f32 x = isN .f32 y := by
  unfold canon at h
  unfold isN
  split at h <;> split at h <;> simp_all
theorem bits_canon {x y : Nat} (h : canon .f32 x = canon .f32 y) (hn : isN .f32 x = false) : x = y := by
  have h1 := canon_of_not hn
  rw [h1] at h
  exact (canon_some h.symm).1

theorem pk_same {e e1 : List Nat} : ∀ k, (∀ i, i < k → nums e i = nums e1 i) → pk e k = pk e1 k
  | 0, _ => rfl
  | k + 1, h => by
    have ih := pk_same k (fun i hi => h i (by omega))
    have hk : canon .f32 (e.getD k 0) = canon .f32 (e1.getD k 0) := h k (by omega)
    rw [pk_step, pk_step, ← ih, ← isN_canon hk]
    rcases hn : isN .f32 (e.getD k 0) with _ | _
    · have hb := bits_canon hk hn
      rw [← hb]
      have : betterB e (e.getD k 0) (pk e k) = betterB e1 (e.getD k 0) (pk e k) := by
        rcases hp : pk e k with _ | b
        · rfl
        · obtain ⟨p1, p2⟩ := pk_lt e k b hp
          show decide (rung Ieee.single (e.getD b 0) < _) = decide (rung Ieee.single (e1.getD b 0) < _)
          rw [bits_canon (h b (by omega)) p2]
      rw [this]
    · rfl

/-- the greatest absolute value, or +0 -/
def peakS (e : List Nat) (n : Nat) : Nat := match pk e n with
  | none => 0
  | some b => rung Ieee.single (e.getD b 0)
theorem peakS_same {e e1 : List Nat} {n : Nat} (h : ∀ i, i < n → nums e i = nums e1 i) : peakS e n = peakS e1 n := by
  unfold peakS
  rw [← pk_same n h]
  rcases hp : pk e n with _ | b
  · rfl
  · obtain ⟨p1, p2⟩ := pk_lt e n b hp
    show rung Ieee.single (e.getD b 0) = rung Ieee.single (e1.getD b 0)
    rw [bits_canon (h b p1) p2]
def peakC (n : Nat) (C : Nat → Option Nat) : Option Nat := canon .f32 (peakS ((List.range n).map fun i => (C i).getD 2143289344) n)
theorem peak_lag {n : Nat} {l : List Nat} {C : Nat → Option Nat} (h : LAg n l C) : canon .f32 (peakS l n) = peakC n C := by
  unfold peakC
  rw [peakS_same (e1 := (List.range n).map fun i => (C i).getD 2143289344)]
  intro i hi
  have e2 : ((List.range n).map fun i => (C i).getD 2143289344).getD i 0 = (C i).getD 2143289344 := by simp [hi]
  rw [h.2.2 i hi]
  unfold nums
  rw [e2]
  exact (rep_canon (h.2.2 i hi)).symm
theorem peakS_lt (e : List Nat) (n : Nat) : peakS e n < 2 ^ 32 := by
  unfold peakS
  split
  · decide
  · exact rung_lt _

set_option maxHeartbeats 8000000 in
set_option maxRecDepth 100000 in
theorem specL03Peak (gf b0 o0 c0 : Nat) (v1 v2 : Value) (e : List Nat) (w : World) (Fd : Blk w gf #[.slice (some ⟨b0, o0, none⟩) e.length c0, v1, v2] 29) (r0 : RowV w (some ⟨b0, o0, none⟩) (fvals e)) (hm : e.length ≤ 256) (hb : ∀ z ∈ e, z < 2 ^ 32) :
    Calls Try.prog 59 #[.pointer (some ⟨gf, 0, none⟩)] w fun r w' => r = .returned (.float .f32 (peakS e e.length)) ∧ Below w.heap.size w w' := by
  have HP : Hid (peakS e e.length = match pk e e.length with | none => 0 | some b => rung Ieee.single (e.getD b 0)) := Lib.hid rfl
  have hpl := pk_lt e e.length
  obtain ⟨Fc, Ff⟩ := Fd.open
  go_enter Try.func59, Try.ntmps59
  go_wp2_with fail
  refine (specPeak (some ⟨b0, o0, none⟩) c0 e w r0 (by unfold maxLen; omega) hb).mono ?_
  rintro r w2 ⟨rfl, nq, hw⟩
  have q : Below w.heap.size w w2 := by rw [hw]; exact below_drewN (Below.refl _ _) _
  clear hw Fc Ff
  replace Fd := Fd.later q; replace r0 := r0.later q
  obtain ⟨Fc, Ff⟩ := Fd.open
  rcases hp : pk e e.length with _ | b
  · skip
    have HP2 : Hid (peakS e e.length = 0) := Lib.hid (by rw [HP.out, hp])
    clear hp hpl HP
    unfold placeI
    go_wp2
    go_ret
    exact ⟨by rw [HP2.out]; rfl, q⟩
  · skip
    obtain ⟨p1, p2⟩ := hpl b hp
    have HP2 : Hid (peakS e e.length = rung Ieee.single (e.getD b 0)) := Lib.hid (by rw [HP.out, hp])
    have zc := row_num r0 p1
    have hbb : e.getD b 0 < 2 ^ 32 := by rw [getD_get p1]; exact hb _ (List.getElem_mem p1)
    clear hp hpl HP
    have ib : (b : Int) < (e.length : Int) := by omega
    have nb : ¬ ((b : Int) < 0) := by omega
    unfold placeI
    generalize e.getD b 0 = z at *
    go_wp2_with fail
    refine (specSizeX z w2 hbb p2).mono ?_
    rintro r w3 ⟨rfl, n3, hw⟩
    have q3 : Below w2.heap.size w2 w3 := by rw [hw]; exact below_drewN (Below.refl _ _) _
    clear hw
    go_wp2
    go_ret
    exact ⟨by rw [HP2.out]; rfl, below_next q q3⟩

end Go.Proofs.Ytedfbaeajofmnab
