/- Slices that are read, copied, compared, marked and held: what the laws' own helpers do with them. Conditions: none beyond those of each theorem. -/
import Derived.Test.YtabhjnpmmjmaiabChecked
import Derived.WalkKit
import Derived.WalkLawsBesides
import Derived.Lib.Hide
import Derived.Below
import Derived.WalkSmall
import Derived.Deep.Draws
import Derived.Deep.Slices
import Derived.ProofKit
import Derived.OpenShut
namespace Go.Proofs.Ytabhjnpmmjmaiab
open Go Go.RowKit

@[go_sem] theorem run_store_float {P : Program} {w : World} {a : Addr} {m : Mode} (k : FloatKind) (b : Nat) : (store a (.float k b) m).run P w = stored P w a (.float k b) m := run_store P w a _ m rfl

@[go_sem] theorem run_store_complex {P : Program} {w : World} {a : Addr} {m : Mode} (k : FloatKind) (b c : Nat) : (store a (.complex k b c) m).run P w = stored P w a (.complex k b c) m := run_store P w a _ m rfl

/-- the cells from an address on are these values -/
def RowV (w : World) (a : Option Addr) (vs : List Value) : Prop :=
  ∀ i u, vs[i]? = some u → ∃ b off, a = some ⟨b, off, none⟩ ∧ w.cell? ⟨b, off + i, none⟩ = some u

theorem lt_of_cell {w : World} {p : Addr} {u : Value} (h : w.cell? p = some u) : p.block < w.heap.size := by
  unfold World.cell? at h
  rcases Nat.lt_or_ge p.block w.heap.size with a | a
  · exact a
  · rw [Array.getElem?_eq_none a] at h; cases h

theorem RowV.below {w w' : World} {a : Option Addr} {vs : List Value} (h : RowV w a vs) {B : Nat} (hb : Below B w w') (ha : ∀ x, a = some x → vs ≠ [] → x.block < B) : RowV w' a vs := by
  intro i u hu
  obtain ⟨b, off, rfl, hc⟩ := h i u hu
  have hne : vs ≠ [] := by intro e; rw [e] at hu; cases hu
  exact ⟨b, off, rfl, by rw [Below.cell hb (p := ⟨b, off + i, none⟩) (ha ⟨b, off, none⟩ rfl hne)]; exact hc⟩

/-- what could be read stays so where all that was there stays -/
theorem RowV.later {w w' : World} {a : Option Addr} {vs : List Value} (h : RowV w a vs) (hb : Below w.heap.size w w') : RowV w' a vs := by
  intro i u hu
  obtain ⟨b, off, rfl, hc⟩ := h i u hu
  exact ⟨b, off, rfl, by rw [Below.cell hb (p := ⟨b, off + i, none⟩) (lt_of_cell hc)]; exact hc⟩

theorem RowV.block_lt {w : World} {a : Option Addr} {vs : List Value} (h : RowV w a vs) : ∀ x, a = some x → vs ≠ [] → x.block < w.heap.size := by
  intro x hx hne
  cases vs with
  | nil => exact absurd rfl hne
  | cons u l =>
    obtain ⟨b, off, rfl, hc⟩ := h 0 u rfl
    cases hx
    exact lt_of_cell hc

theorem RowV.of_owned {w : World} {base : Nat} {e : TypeId} {g n cap : Nat} {vs : List Value} (h : w.ownsRow base e 1 (.slice (some ⟨g, 0, none⟩) n cap) n vs) : RowV w (some ⟨g, 0, none⟩) vs := by
  intro i u hu
  refine ⟨g, 0, rfl, ?_⟩
  have hi : i < n * 1 := by
    have := (List.getElem?_eq_some_iff.1 hu).1
    rw [h.1] at this; exact this
  have := World.ownsRow.cellAt h i hi
  rw [Nat.zero_add, this, hu]

def fvals (xs : List Nat) : List Value := xs.map (Value.float .f32)
def ivals (xs : List Int) : List Value := xs.map (Value.int .i64)

theorem fvals_length (xs : List Nat) : (fvals xs).length = xs.length := List.length_map ..
theorem ivals_length (xs : List Int) : (ivals xs).length = xs.length := List.length_map ..
theorem fvals_get {xs : List Nat} {i : Nat} (h : i < xs.length) : (fvals xs)[i]? = some (.float .f32 xs[i]) := by
  unfold fvals; rw [List.getElem?_map, List.getElem?_eq_getElem h]; rfl
theorem ivals_get {xs : List Int} {i : Nat} (h : i < xs.length) : (ivals xs)[i]? = some (.int .i64 xs[i]) := by
  unfold ivals; rw [List.getElem?_map, List.getElem?_eq_getElem h]; rfl

/-- the copy behind i rounds: what was copied, and zeros -/
def part (vs : List Value) (z : Value) (i : Nat) : List Value := vs.take i ++ List.replicate (vs.length - i) z

theorem part_zero (vs : List Value) (z : Value) : part vs z 0 = List.replicate vs.length z := by simp [part]
theorem part_all (vs : List Value) (z : Value) : part vs z vs.length = vs := by simp [part]
theorem part_set (vs : List Value) (z : Value) (i : Nat) (h : i < vs.length) (u : Value) (hu : vs[i]? = some u) : (part vs z i).set i u = part vs z (i + 1) := by
  unfold part
  apply List.ext_getElem?
  intro j
  rw [List.getElem?_set]
  have hl : (vs.take i ++ List.replicate (vs.length - i) z).length = vs.length := by simp; omega
  by_cases hj : i = j
  · subst hj
    rw [if_pos rfl, hl, if_pos h, List.getElem?_append_left (by simp; omega), List.getElem?_take, if_pos (by omega), hu]
  · rw [if_neg hj]
    by_cases h2 : j < i
    · rw [List.getElem?_append_left (by simp; omega), List.getElem?_append_left (by simp; omega), List.getElem?_take, List.getElem?_take, if_pos h2, if_pos (by omega)]
    · rw [List.getElem?_append_right (by simp; omega), List.getElem?_append_right (by simp; omega), List.getElem?_replicate, List.getElem?_replicate]
      simp only [List.length_take]
      have e1 : min i vs.length = i := by omega
      have e2 : min (i + 1) vs.length = i + 1 := by omega
      rw [e1, e2]
      by_cases h3 : j < vs.length
      · rw [if_pos (by omega), if_pos (by omega)]
      · rw [if_neg (by omega), if_neg (by omega)]

theorem Try.infoF32 : (Try.prog.info? 32).map (fun i => (i.zero, i.size, i.bytes)) = some (some (.float .f32 0), 1, 4) := by kernel_rfl

theorem Try.infoI64 : (Try.prog.info? 2).map (fun i => (i.zero, i.size, i.bytes)) = some (some (.int .i64 0), 1, 8) := by kernel_rfl

set_option maxHeartbeats 1000000 in
theorem toF32s (a : Option Addr) (cap : Nat) (xs : List Nat) (w : World) (hr : RowV w a (fvals xs)) (hn : xs.length ≤ 1048576) :
    Calls Try.prog 52 #[.slice a xs.length cap] w fun e w' => e = .returned (.slice (some ⟨w.heap.size, 0, none⟩) xs.length xs.length) ∧
      w'.ownsRow w.heap.size 32 1 (.slice (some ⟨w.heap.size, 0, none⟩) xs.length xs.length) xs.length (fvals xs) ∧ Below w.heap.size w w' := by
  obtain ⟨i0, hi, hz0, hz1, hz2⟩ := info_parts Try.infoF32
  generalize hlen : xs.length = n at *
  have HL := Lib.hid hlen
  clear hlen
  have hn1 : (n : Int) ≤ 1048576 := by omega
  have hbytes : i0.bytes * n ≤ 281474976710656 := by rw [hz2]; omega
  have HI := Lib.hid hi
  have HZ0 := Lib.hid hz0
  have HZ1 := Lib.hid hz1
  clear hi hz0 hz1 hz2
  go_enter Try.func52, Try.ntmps52
  go_wp2_with (at_make; refine wpList_make_full _ rfl _ _ 22 rfl w.heap.size 32 i0 (.float .f32 0) 1 Try.underlying22 HI.out HZ0.out HZ1.out .i64 .i64 _ _ n rfl rfl rfl rfl hbytes (by unfold maxLen; omega) (Nat.le_refl _) ?_; intro w1 hown hgrow)
  have hown' : w1.ownsRow w.heap.size 32 1 (.slice (some ⟨w.heap.size, 0, none⟩) n n) n (part (fvals xs) (.float .f32 0) 0) := by
    rw [part_zero, fvals_length, HL.out]
    have := hown
    rw [show (Value.float FloatKind.f32 0).cells = #[.float .f32 0] from rfl, Nat.mul_one, toList_madeCells_one] at this
    exact this
  have hbel : Below w.heap.size w w1 := (Below.refl w.heap.size w).grown hgrow (Nat.le_refl _) (fun k hk => by cases hk)
  clear hown hgrow
  go_wp2
  go_loopw [4] (fun i wr => ∃ k : Nat, k ≤ n ∧ i = .int .i64 k ∧ wr.ownsRow w.heap.size 32 1 (.slice (some ⟨w.heap.size, 0, none⟩) n n) n (part (fvals xs) (.float .f32 0) k) ∧ Below w.heap.size w wr) (fun i _ => n - (intOf i).toNat)
  case atStart => exact ⟨0, Nat.zero_le _, rfl, hown', hbel⟩
  case round =>
    obtain ⟨k, hk, rfl, hown, hb⟩ := hrel
    have HO := Lib.hid hown
    have HW := Lib.hid hb
    clear hown hb hown' hbel
    by_cases hlt : k < n
    · have hx : (fvals xs)[k]? = some (.float .f32 (xs[k]'(by rw [HL.out]; exact hlt))) := fvals_get (by rw [HL.out]; exact hlt)
      obtain ⟨b, off, rfl, hc⟩ := hr k _ hx
      have hc2 : wr.cell? ⟨b, off + k, none⟩ = some (.float .f32 (xs[k]'(by rw [HL.out]; exact hlt))) := by
        rw [Below.cell HW.out (p := ⟨b, off + k, none⟩) (lt_of_cell hc)]; exact hc
      have hold := World.ownsRow.cellAt HO.out k (by omega)
      have hfr := World.ownsRow.frozenAt HO.out k
      have hst := World.ownsRow.stored HO.out k (.float .f32 (xs[k]'(by rw [HL.out]; exact hlt)))
      rw [part_set _ _ k (by rw [fvals_length, HL.out]; exact hlt) _ hx] at hst
      obtain ⟨v0, hv0⟩ : ∃ v, (part (fvals xs) (.float .f32 0) k)[k]? = some v := by
        have : k < (part (fvals xs) (.float .f32 0) k).length := by unfold part; simp [fvals_length, HL.out]; omega
        exact ⟨_, List.getElem?_eq_getElem this⟩
      rw [hv0] at hold
      have HS := Lib.hid hst
      have HX := Lib.hid hx
      clear hst hx hv0 hc
      generalize (xs[k]'(by rw [HL.out]; exact hlt)) = xk at *
      go_wp2
      go_roundw
      case rel => exact ⟨k + 1, by omega, by go_num, HS.out.1, HW.out.grown HS.out.2 HW.out.size (fun j hj => by cases hj; exact Nat.le_refl _)⟩
      case measure => simp [intOf]; omega
    · obtain rfl : k = n := by omega
      go_wp2
      go_ret
      have hp := part_all (fvals xs) (.float .f32 0)
      rw [fvals_length, HL.out] at hp
      have := HO.out
      rw [hp] at this
      exact ⟨rfl, this, HW.out⟩
end Go.Proofs.Ytabhjnpmmjmaiab
