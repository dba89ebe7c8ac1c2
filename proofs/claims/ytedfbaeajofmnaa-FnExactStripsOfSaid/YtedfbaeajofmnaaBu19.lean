/- Several texts in one: facts on floats, lists, memory and the functions that the theorems beside this text use. Conditions: none beyond those of each theorem. -/
import Derived.Test.YtedfbaeajofmnaaBu18

set_option linter.unusedVariables false

section

namespace Go.Proofs.Ytedfbaeajofmnaa
open Go Ieee Go.RowKit
set_option linter.unusedVariables false

/-- the cells beside a cell, around the edges -/
def dnI (m k i : Nat) : Nat := i % m + m * ((i / m + 1) % k)
def rtI (m i : Nat) : Nat := (i % m + 1) % m + m * (i / m)
def upI (m k i : Nat) : Nat := i % m + m * ((i / m + (k - 1)) % k)
def lfI (m i : Nat) : Nat := (i % m + (m - 1)) % m + m * (i / m)

abbrev half32 : Option Nat := canon .f32 1056964608
abbrev one32 : Option Nat := canon .f32 1065353216

def halfX (wb : Bool) (m k : Nat) (E X : Nat → Option Nat) (i : Nat) : Option Nat :=
  if belowB wb (k : Int) ((i / m : Nat) : Int) then X i else fop .sub .f32 (X i) (fop .mul .f32 half32 (fop .sub .f32 (E (dnI m k i)) (E i)))
def halfY (wb : Bool) (m k : Nat) (E Y : Nat → Option Nat) (i : Nat) : Option Nat :=
  if besideB wb (m : Int) ((i % m : Nat) : Int) then Y i else fop .add .f32 (Y i) (fop .mul .f32 half32 (fop .sub .f32 (E (rtI m i)) (E i)))
/-- X and Y are those behind the half step -/
def restE (wb : Bool) (m k : Nat) (S L E X Y : Nat → Option Nat) (i : Nat) : Option Nat :=
  if bordB wb (m : Int) (k : Int) ((i % m : Nat) : Int) ((i / m : Nat) : Int) then E i
  else fop .add .f32 (fop .mul .f32 (E i) (fop .sub .f32 one32 (L i))) (fop .mul .f32 (S i) (fop .sub .f32 (fop .sub .f32 (Y i) (Y (lfI m i))) (fop .sub .f32 (X i) (X (upI m k i)))))

/-- these bits are those numbers, as far as n -/
def Ag (n : Nat) (F : Nat → Nat) (C : Nat → Option Nat) : Prop := ∀ q, q < n → canon .f32 (F q) = C q ∧ F q < 2 ^ 32

def mix (j : Nat) (A B : Nat → Option Nat) (q : Nat) : Option Nat := if q < j then A q else B q

theorem mix_here (j : Nat) (A B : Nat → Option Nat) : mix j A B j = B j := if_neg (Nat.lt_irrefl j)

theorem ag_zero {n : Nat} {F : Nat → Nat} {A B : Nat → Option Nat} (h : Ag n F B) : Ag n F (mix 0 A B) := fun q hq => by
  unfold mix; rw [if_neg (Nat.not_lt_zero q)]; exact h q hq

theorem ag_all {n : Nat} {F : Nat → Nat} {A B : Nat → Option Nat} (h : Ag n F (mix n A B)) : Ag n F A := fun q hq => by
  have := h q hq
  unfold mix at this; rwa [if_pos hq] at this

theorem ag_put {n j v : Nat} {F : Nat → Nat} {A B : Nat → Option Nat} (h : Ag n F (mix j A B)) (hc : canon .f32 v = A j) (hv : v < 2 ^ 32) : Ag n (up1 F j v) (mix (j + 1) A B) := fun q hq => by
  unfold up1 mix
  by_cases e : q = j
  · subst e; rw [if_pos rfl, if_pos (Nat.lt_succ_self q)]; exact ⟨hc, hv⟩
  · rw [if_neg e]
    have := h q hq
    unfold mix at this
    by_cases l : q < j
    · rw [if_pos l] at this; rw [if_pos (by omega)]; exact this
    · rw [if_neg l] at this; rw [if_neg (by omega)]; exact this

theorem ag_same {n j : Nat} {F : Nat → Nat} {A B : Nat → Option Nat} (h : Ag n F (mix j A B)) (he : A j = B j) : Ag n F (mix (j + 1) A B) := fun q hq => by
  have := h q hq
  unfold mix at this ⊢
  by_cases l : q < j
  · rw [if_pos l] at this; rw [if_pos (by omega)]; exact this
  · rw [if_neg l] at this
    by_cases e : q = j
    · subst e; rw [if_pos (Nat.lt_succ_self q), he]; exact this
    · rw [if_neg (by omega)]; exact this

theorem ag_here {n j : Nat} {F : Nat → Nat} {A B : Nat → Option Nat} (h : Ag n F (mix j A B)) (hj : j < n) : canon .f32 (F j) = B j ∧ F j < 2 ^ 32 := by
  have := h j hj
  rwa [mix_here] at this

theorem at_lt {m k i : Nat} (h : i < m * k) (hm : 0 < m) : i % m < m ∧ i / m < k ∧ i % m + m * (i / m) = i :=
  ⟨Nat.mod_lt _ hm, (Nat.div_lt_iff_lt_mul hm).2 (by rw [Nat.mul_comm]; exact h), Nat.mod_add_div i m⟩

theorem place_lt {m k x y : Nat} (hx : x < m) (hy : y < k) : x + m * y < m * k := by
  have h : m * (y + 1) ≤ m * k := Nat.mul_le_mul_left m hy
  rw [Nat.mul_succ] at h
  omega

theorem dn_lt {m k i : Nat} (hm : 0 < m) (hk : 0 < k) : dnI m k i < m * k := place_lt (Nat.mod_lt _ hm) (Nat.mod_lt _ hk)
theorem up_lt {m k i : Nat} (hm : 0 < m) (hk : 0 < k) : upI m k i < m * k := place_lt (Nat.mod_lt _ hm) (Nat.mod_lt _ hk)
theorem rt_lt {m k i : Nat} (hm : 0 < m) (h : i < m * k) : rtI m i < m * k := place_lt (Nat.mod_lt _ hm) (at_lt h hm).2.1
theorem lf_lt {m k i : Nat} (hm : 0 < m) (h : i < m * k) : lfI m i < m * k := place_lt (Nat.mod_lt _ hm) (at_lt h hm).2.1

/-- a number of a cell in a block of arrays -/
theorem gr_cell {w : World} {g o m k i : Nat} {cs : Array Value} {t : TypeId} {F : Nat → Nat} (G : Blk w g cs t) (h : GR cs o m k F) (hi : i < m * k) (hm : 0 < m) : w.cell? ⟨g, o + (16 * (i / m) + i % m), none⟩ = some (.float .f32 (F i)) := by
  obtain ⟨h1, h2, h3⟩ := at_lt hi hm
  rw [G.open.1, h _ _ h1 h2, h3]

theorem gr_place {w : World} {g o m k x y : Nat} {cs : Array Value} {t : TypeId} {F : Nat → Nat} (G : Blk w g cs t) (h : GR cs o m k F) (hx : x < m) (hy : y < k) : w.cell? ⟨g, o + (16 * y + x), none⟩ = some (.float .f32 (F (x + m * y))) := by
  rw [G.open.1, h _ _ hx hy]

theorem gr_put {cs : Array Value} {o m k i v : Nat} {F : Nat → Nat} (h : GR cs o m k F) (ha : AF 768 cs) (hm : m ≤ 16) (hk : k ≤ 16) (ho : o ≤ 512) (h0 : 0 < m) (hi : i < m * k) : GR (cs.setIfInBounds (o + (16 * (i / m) + i % m)) (.float .f32 v)) o m k (up1 F i v) := by
  obtain ⟨h1, h2, h3⟩ := at_lt hi h0
  have := gr_set h ha hm (by omega) h1 h2 v
  rwa [h3] at this

/-- one number of X, or of Y, or of E is another one -/
theorem gf_putX {cs : Array Value} {m k i v : Nat} {E X Y : Nat → Nat} (h : GF cs m k E X Y) (hm : m ≤ 16) (hk : k ≤ 16) (h0 : 0 < m) (hi : i < m * k) : GF (cs.setIfInBounds (256 + (16 * (i / m) + i % m)) (.float .f32 v)) m k E (up1 X i v) Y := by
  obtain ⟨h1, h2, h3, h4⟩ := h
  obtain ⟨c1, c2, c3⟩ := at_lt hi h0
  exact ⟨af_set h1 _ _, gr_other h2 _ hm (by omega), gr_put h3 h1 hm hk (by omega) h0 hi, gr_other h4 _ hm (by omega)⟩
theorem gf_putY {cs : Array Value} {m k i v : Nat} {E X Y : Nat → Nat} (h : GF cs m k E X Y) (hm : m ≤ 16) (hk : k ≤ 16) (h0 : 0 < m) (hi : i < m * k) : GF (cs.setIfInBounds (512 + (16 * (i / m) + i % m)) (.float .f32 v)) m k E X (up1 Y i v) := by
  obtain ⟨h1, h2, h3, h4⟩ := h
  obtain ⟨c1, c2, c3⟩ := at_lt hi h0
  exact ⟨af_set h1 _ _, gr_other h2 _ hm (by omega), gr_other h3 _ hm (by omega), gr_put h4 h1 hm hk (by omega) h0 hi⟩
theorem gf_putE {cs : Array Value} {m k i v : Nat} {E X Y : Nat → Nat} (h : GF cs m k E X Y) (hm : m ≤ 16) (hk : k ≤ 16) (h0 : 0 < m) (hi : i < m * k) : GF (cs.setIfInBounds (0 + (16 * (i / m) + i % m)) (.float .f32 v)) m k (up1 E i v) X Y := by
  obtain ⟨h1, h2, h3, h4⟩ := h
  obtain ⟨c1, c2, c3⟩ := at_lt hi h0
  exact ⟨af_set h1 _ _, gr_put h2 h1 hm hk (by omega) h0 hi, gr_other h3 _ hm (by omega), gr_other h4 _ hm (by omega)⟩

end Go.Proofs.Ytedfbaeajofmnaa

end
