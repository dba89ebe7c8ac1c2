/- Several texts in one: facts on floats, lists, memory and the functions that the theorems beside this text use. Conditions: none beyond those of each theorem. -/
import Derived.Test.YtedfbaeajofmnaaBu17
import Derived.Test.YtedfbaeajofmnaaBu14
import Derived.Test.YtedfbaeajofmnaaRowOf
import Derived.Deep.MidRow

set_option linter.unusedVariables false

section

namespace Go.Proofs.Ytedfbaeajofmnaa
open Go Ieee Go.RowKit
set_option linter.unusedVariables false

theorem fvals_all (xs : List Nat) : ∀ v ∈ fvals xs, v.oneCell' = true := fun u hu => by
  obtain ⟨x, _, rfl⟩ := List.mem_map.1 hu; rfl

/-- what an array holds of the first j rows of a list -/
def RowsTo (cur : List Value) (m j : Nat) (xs : List Nat) : Prop := cur.length = 256 ∧ (∀ v ∈ cur, v.oneCell' = true) ∧ ∀ x y, x < m → y < j → cur[16 * y + x]? = some (.float .f32 (xs.getD (x + m * y) 0))

theorem rowsTo_zero (m : Nat) (xs : List Nat) : RowsTo zrow.toList m 0 xs := ⟨by decide +kernel, fun v hv => by
  have : v = .float .f32 0 := by
    have h : v ∈ List.replicate 256 (Value.float .f32 0) := by unfold zrow at hv; rw [Array.toList_replicate] at hv; exact hv
    exact (List.mem_replicate.1 h).2
  rw [this]; rfl, fun x y _ h => by omega⟩

theorem splice_get (l m : List Value) (o i : Nat) (h : o + m.length ≤ l.length) : (splice l o m)[i]? = if o ≤ i ∧ i < o + m.length then m[i - o]? else l[i]? := by
  unfold splice
  by_cases h1 : i < o
  · rw [if_neg (by omega), List.getElem?_append_left (by simp; omega), List.getElem?_take, if_pos h1]
  · by_cases h2 : i < o + m.length
    · rw [if_pos ⟨by omega, h2⟩, List.getElem?_append_right (by simp; omega), List.getElem?_append_left (by simp; omega)]
      congr 1; simp; omega
    · rw [if_neg (by omega), List.getElem?_append_right (by simp; omega), List.getElem?_append_right (by simp; omega), List.getElem?_drop]
      congr 1; simp; omega

theorem rowsTo_next {cur : List Value} {m j : Nat} {xs : List Nat} (h : RowsTo cur m j xs) (hm : m ≤ 16) (hj : j < 16) (hx : m * j + m ≤ xs.length) :
    RowsTo (splice cur (j * 16) (fvals (placed (fun i => m * j + i) m xs))) m (j + 1) xs := by
  obtain ⟨h1, h2, h3⟩ := h
  rw [Nat.mul_comm j 16]
  have hl : (fvals (placed (fun i => m * j + i) m xs)).length = m := by rw [fvals_length, placed_length]
  refine ⟨by rw [length_splice _ _ _ (by rw [hl, h1]; omega), h1], fun v hv => ?_, fun x y hx' hy => ?_⟩
  · unfold splice at hv
    simp only [List.mem_append] at hv
    rcases hv with hv | hv | hv
    · exact h2 v (List.mem_of_mem_take hv)
    · exact fvals_all _ v hv
    · exact h2 v (List.mem_of_mem_drop hv)
  · rw [splice_get _ _ _ _ (by rw [hl, h1]; omega), hl]
    by_cases e : y = j
    · subst e
      rw [if_pos (by omega), show 16 * y + x - 16 * y = x by omega, fvals_get (by rw [placed_length]; omega)]
      unfold placed
      rw [List.getElem_map, List.getElem_range]
      dsimp only
      rw [Nat.add_comm (m * y) x]
    · rw [if_neg (by omega)]
      exact h3 x y hx' (by omega)

theorem rowsTo_all {cur : List Value} {m k : Nat} {xs : List Nat} (h : RowsTo cur m k xs) : AF 256 cur.toArray ∧ GR cur.toArray 0 m k (fun i => xs.getD i 0) :=
  ⟨⟨by simpa using h.1, all_oneCell_toArray h.2.1⟩, fun x y hx hy => by rw [Nat.zero_add]; simpa using h.2.2 x y hx hy⟩

set_option maxHeartbeats 4000000 in
set_option maxRecDepth 100000 in
theorem implRowsOf (m k : Nat) (wb : Bool) (a : Option Addr) (xs : List Nat) (w : World) (ha : RowV w a (fvals xs)) (hl : xs.length = m * k) (h1 : 3 ≤ m) (h2 : m ≤ 16) (h3 : 3 ≤ k) (h4 : k ≤ 16) :
    Calls Try.prog 131 #[.agg #[.int .i64 (m : Int), .int .i64 (k : Int), .bool wb], .slice a xs.length xs.length] w fun e w' => ∃ cs, e = .returned (.agg cs) ∧ AF 256 cs ∧ GR cs 0 m k (fun i => xs.getD i 0) ∧ Below w.heap.size w w' := by
  have hpos : 0 < xs.length := by rw [hl]; exact Nat.mul_pos (by omega) (by omega)
  have hfew : xs.length ≤ 256 := by rw [hl]; exact Nat.le_trans (Nat.mul_le_mul h2 h4) (by decide)
  obtain ⟨b, off, rfl, hc⟩ := ha 0 _ (fvals_get hpos)
  clear hc
  have hk' : (k : Int) ≤ 16 := by omega
  have HL := Lib.hid hl; clear hl
  have HSZ : Hid ((Try.prog.info? 102).map (·.size) = some 1) := Lib.hid (by kernel_rfl)
  have RS0 : Hid (RowsTo zrow.toList m 0 xs) := Lib.hid (rowsTo_zero m xs)
  have ai64 : ∀ w, (isAgg 2).run Try.prog w = .ok false w := fun w => by kernel_rfl
  have X := ((Blk.new w #[.int .i64 (m : Int), .int .i64 (k : Int), .bool wb] 80).alloc (.cells zrow 123)).alloc (.cells zrow 123)
  have D := (Blk.new1 w (.cells #[.int .i64 (m : Int), .int .i64 (k : Int), .bool wb] 80) zrow 123).alloc (.cells zrow 123)
  have G := Blk.new2 w (.cells #[.int .i64 (m : Int), .int .i64 (k : Int), .bool wb] 80) (.cells zrow 123) zrow 123
  have HB : Hid (Below w.heap.size w (((w.alloc (.cells #[.int .i64 (m : Int), .int .i64 (k : Int), .bool wb] 80)).alloc (.cells zrow 123)).alloc (.cells zrow 123))) := Lib.hid ((((Below.refl w.heap.size w).alloc (by simp <;> omega) _).alloc (by simp <;> omega) _).alloc (by simp <;> omega) _)
  go_enter Try.func131, Try.ntmps131
  go_wp2_with (first | (refine wpList_alloc_big rfl _ rfl zrow rows_zero ?_) | fail)
  generalize (((w.alloc (.cells #[.int .i64 (m : Int), .int .i64 (k : Int), .bool wb] 80)).alloc (.cells zrow 123)).alloc (.cells zrow 123)) = u1 at *
  obtain ⟨Xc, Xf⟩ := X.open
  go_wp2
  clear Xc Xf
  go_loopw [9] (fun iv wr => ∃ (j : Nat) (cur : List Value), j ≤ k ∧ iv = .int .i64 j ∧ RowsTo cur m j xs ∧ Blk wr w.heap.size #[.int .i64 (m : Int), .int .i64 (k : Int), .bool wb] 80 ∧ Blk wr (w.heap.size + 1) zrow 123 ∧ Blk wr (w.heap.size + 1 + 1) cur.toArray 123 ∧ Below w.heap.size w wr) (fun iv _ => k - (intOf iv).toNat)
  case atStart => exact ⟨0, zrow.toList, Nat.zero_le _, rfl, RS0.out, X, D, by simpa using G, HB.out⟩
  clear X D G HB RS0
  obtain ⟨j, cur, hj, rfl, hR, X, D, G, hB⟩ := hrel
  have HR := Lib.hid hR; have HB := Lib.hid hB; clear hR hB
  by_cases hlt : j < k
  · skip
    have hj16 : (j : Int) < 16 := by omega
    have hm16 : (m : Int) ≤ 16 := by omega
    have HQ : m * j + m ≤ xs.length := by rw [HL.out]; exact Nat.le_trans (Nat.le_of_eq (Nat.mul_succ m j).symm) (Nat.mul_le_mul_left m hlt)
    obtain ⟨q, hq⟩ : ∃ q : Nat, q = m * j := ⟨_, rfl⟩
    have hqn : q + m ≤ xs.length := by rw [hq]; exact HQ
    have hqi : (q : Int) ≤ (xs.length : Int) := by omega
    have HQM : Hid ((0 : Int) + (m : Int) * (j : Int) = (q : Int)) := Lib.hid (by rw [hq]; simp)
    have k1 : 0 ≤ (m : Int) * (j : Int) := by rw [← Int.natCast_mul]; omega
    have k2 : (m : Int) * (j : Int) ≤ 256 := by rw [← Int.natCast_mul, ← hq]; omega
    have HQ2 := Lib.hid hq; clear hq HQ
    have HNEXT : Hid (RowsTo (splice cur (j * 16) (fvals (placed (fun i => m * j + i) m xs))) m (j + 1) xs) := Lib.hid (rowsTo_next HR.out h2 (by omega) (by rw [← HQ2.out]; exact hqn))
    obtain ⟨Xc, Xf⟩ := X.open
    go_wp2_with fail
    refine wp_region_rel_tail (Grows wr) (fun _ _ v => v = .int .i64 (q : Int)) 11 (by kernel_rfl) (by kernel_rfl) (Grows.drew _) ?_
    simp only [List.take_succ_cons, List.take_zero, List.drop_succ_cons, List.drop_zero]
    (refine wpRel_plain rfl rfl ?_; intro K hK; go_big_quiet_op; (first | go_big_quiet_on | (refine ⟨_, fun _ _ => rfl, ?_⟩; go_big_quiet_on)))
    (refine wpRel_plain rfl rfl ?_; intro K hK; go_big_quiet_op; (first | go_big_quiet_on | (refine ⟨_, fun _ _ => rfl, ?_⟩; go_big_quiet_on)))
    (refine wpRel_plain rfl rfl ?_; intro K hK; go_big_quiet_op; (first | go_big_quiet_on | (refine ⟨_, fun _ _ => rfl, ?_⟩; go_big_quiet_on)))
    (refine wpRel_load rfl _ rfl (.int .i64 (m : Int)) (load_cell ai64 (Xc 0)) ?_; simp only [Act.put, List.setIfInBounds_toArray, List.set_cons_zero, List.set_cons_succ])
    (refine wpRel_plain rfl rfl ?_; intro K hK; go_big_quiet_op; (first | go_big_quiet_on | (refine ⟨_, fun _ _ => rfl, ?_⟩; go_big_quiet_on)))
    (refine wpRel_plain rfl rfl ?_; intro K hK; go_big_quiet_op; (first | go_big_quiet_on | (refine ⟨_, fun _ _ => rfl, ?_⟩; go_big_quiet_on)))
    (refine wpRel_load rfl _ rfl (_) (fun w' hw' => run_loadVar_row w' _ _ _ _ _ _ (X.later hw') Try.underlying80 rfl (by kernel_rfl)) ?_; simp only [Act.put, List.setIfInBounds_toArray, List.set_cons_zero, List.set_cons_succ])
    (refine wpRel_plain rfl rfl ?_; intro K hK; go_big_quiet_op; (first | go_big_quiet_on | (refine ⟨_, fun _ _ => rfl, ?_⟩; go_big_quiet_on)))
    (refine wpRel_build rfl #[.int .i64 0, .int .i64 (j : Int)] (by kernel_rfl) ?_; simp only [Act.put, List.setIfInBounds_toArray, List.set_cons_zero, List.set_cons_succ])
    (refine wpRel_callC rfl 117 _ rfl Try.func117 (by kernel_rfl) (by kernel_rfl) [.agg #[.int .i64 (m : Int), .int .i64 (k : Int), .bool wb], .agg #[.int .i64 0, .int .i64 (j : Int)]] rfl (fun w' hw' => (implIndexQ0 _ _ _ _ _ q _ HQM k1 k2 (by omega) (by omega)).mono (by rintro e w'' ⟨rfl, q9⟩; exact ⟨_, rfl, rfl, Grows.next hw' q9⟩)) ?_; intro v hv; subst hv; simp only [Act.put, List.setIfInBounds_toArray, List.set_cons_zero, List.set_cons_succ])
    (refine wpRel_plain rfl rfl ?_; intro K hK; go_big_quiet_op; (first | go_big_quiet_on | (refine ⟨_, fun _ _ => rfl, ?_⟩; go_big_quiet_on)))
    refine wpRel_nil ?_
    intro w1 q1
    have q1' : Below wr.heap.size wr w1 := q1
    replace X := X.later q1'; replace D := D.later q1'; replace G := G.later q1'
    have HB1 := Lib.hid (HB.out.trans (q1'.mono HB.out.size)); clear HB Xc Xf
    have HA : Hid (RowV w1 (some ⟨b, off + q, none⟩) (fvals (placed (fun i => m * j + i) m xs))) := Lib.hid (by rw [← HQ2.out]; exact row_part (ha.later HB1.out) hqn)
    have HLP : Hid ((fvals (placed (fun i => m * j + i) m xs)).length = m) := Lib.hid (by rw [fvals_length, placed_length])
    clear q1 q1'
    refine wpList_copy_splice rfl (.tmp 16) (.tmp 22) 22 22 rfl 102 Try.underlying22 HSZ.out _ _ _ _ _ _ rfl rfl (w.heap.size + 1 + 1) (j * 16) cur 123 G (fvals (placed (fun i => m * j + i) m xs)) ?l1 (fun _ => ⟨rfl, _, rfl, fun i v hv => row_news HA.out i v hv⟩) ?l2 (fvals_all _) (w.heap.size + 1 + 1) w1 (Below.refl _ _) (Nat.le_refl _) ?_
    case l1 => rw [HLP.out]; exact (Nat.min_eq_right (by omega)).symm
    case l2 => rw [HLP.out, HR.out.1]; omega
    intro w2 G2 q2
    replace X := X.below q2 (by omega); replace D := D.below q2 (by omega)
    have HB2 := Lib.hid (HB1.out.trans (q2.mono (by omega))); clear HB1 G q2 HA
    go_wp2
    go_roundw
    case rel => exact ⟨j + 1, _, by omega, by go_num, HNEXT.out, X, D, G2.out, HB2.out⟩
    case measure => simp [intOf]; omega
  · skip
    obtain rfl : j = k := by omega
    have HALL := Lib.hid (rowsTo_all HR.out)
    have hr256 : cur.toArray.size = 256 := HALL.out.1.1
    have HS2 : Hid ((Try.prog.info? 123).map (·.size) = some cur.toArray.size) := Lib.hid (by rw [hr256]; exact rows_size)
    have HS3 : Hid (zrow.size = cur.toArray.size) := Lib.hid (by rw [hr256]; rfl)
    clear hr256
    go_wp2_with (first
      | (refine wpList_load_row rfl _ _ rfl _ rfl 123 cur.toArray (0, 0) _ G Try.underlying123 rfl HS2.out ?_)
      | (refine wpList_store_row rfl _ _ _ rfl _ cur.toArray rfl rfl 123 zrow D HS2.out HS3.out HALL.out.1.2 ?_)
      | fail)
    refine bodyPost_ret (v := .agg cur.toArray) (results_cell_row rfl _ _ (w.heap.size + 1) 123 cur.toArray (0, 0) _ rfl (D.row _) Try.underlying123 rfl HS2.out) rfl ⟨cur.toArray, rfl, HALL.out.1, HALL.out.2, below_setRow HB.out (by omega) _⟩

end Go.Proofs.Ytedfbaeajofmnaa

end

section

namespace Go.Proofs.Ytedfbaeajofmnaa
open Go Ieee Go.RowKit
set_option linter.unusedVariables false

def z16 : Array Value := Array.replicate 16 (.float .f32 0)
theorem a16_info : (Try.prog.info? 121).map (fun i => (i.zero, i.size)) = some (some (.agg z16), 16) := by kernel_rfl
theorem a16_zero : ∀ w, (zeroValue 121).run Try.prog w = .ok (.agg z16) w := (zero_of_info a16_info).1
theorem a16_size : (Try.prog.info? 121).map (·.size) = some 16 := (zero_of_info a16_info).2

/-- the first numbers of a function -/
def firsts (F : Nat → Nat) (n : Nat) : List Nat := (List.range n).map F

theorem firsts_length (F : Nat → Nat) (n : Nat) : (firsts F n).length = n := by simp [firsts]

theorem firsts_add (F : Nat → Nat) (n m : Nat) : firsts F (n + m) = firsts F n ++ firsts (fun i => F (n + i)) m := by
  unfold firsts
  rw [List.range_add, List.map_append, List.map_map]
  rfl

theorem outs_more {w wr w1 : World} {v v' : Value} {n m : Nat} {zs ys : List Nat} (h : Outs w wr v n zs) (hl : ys.length = m) (ho : w1.ownsRow w.heap.size 102 1 v' (n + m) (fvals zs ++ fvals ys)) (hg : wr.grownBy w1 v.ownBlock) : Outs w w1 v' (n + m) (zs ++ ys) := by
  refine ⟨by rw [List.length_append, h.1, hl], ?_, ?_⟩
  · have e : fvals (zs ++ ys) = fvals zs ++ fvals ys := by unfold fvals; rw [List.map_append]
    rw [e]; exact ho
  · have hz := h.2.2.size
    exact h.2.2.grown hg hz (fun k hk => (h.2.1.lt k hk).1)

/-- a row of the array that a block holds -/
def rowAt (cs : Array Value) (o j : Nat) : List Value := (cs.extract (o + j * 16) (o + j * 16 + 16)).toList

theorem rowAt_length {cs : Array Value} {o j : Nat} (h : o + j * 16 + 16 ≤ cs.size) : (rowAt cs o j).length = 16 := by unfold rowAt; simp; omega

theorem rowAt_get {cs : Array Value} {o j i : Nat} (h : o + j * 16 + 16 ≤ cs.size) (hi : i < 16) : (rowAt cs o j)[i]? = cs[o + (16 * j + i)]? := by
  unfold rowAt
  rw [Array.getElem?_toList, Array.getElem?_extract, if_pos (by omega)]
  congr 1; omega

theorem rowAt_one {cs : Array Value} {o j : Nat} (h : cs.all (·.oneCell') = true) : (rowAt cs o j).toArray.all (·.oneCell') = true := by
  refine all_oneCell_toArray fun v hv => ?_
  unfold rowAt at hv
  rw [Array.mem_toList_iff] at hv
  obtain ⟨i, hi, rfl⟩ := Array.mem_iff_getElem.1 hv
  rw [Array.getElem_extract]
  exact (Array.all_eq_true_iff_forall_mem.1 h) _ (Array.getElem_mem _)

theorem rowAt_news {w : World} {R o m j k : Nat} {cs : Array Value} {t : TypeId} {F : Nat → Nat} (hR : Blk w R (rowAt cs o j).toArray t) (h : o + j * 16 + 16 ≤ cs.size) (hG : GR cs o m k F) (hm : m ≤ 16) (hj : j < k) :
    ∀ i u, (fvals (firsts (fun i => F (m * j + i)) m))[i]? = some u → w.cell? ((⟨R, 0, none⟩ : Addr).add i) = some u := by
  intro i u hu
  have hi : i < m := by
    rcases Nat.lt_or_ge i m with h' | h'
    · exact h'
    · rw [List.getElem?_eq_none (by rw [fvals_length, firsts_length]; exact h')] at hu; cases hu
  rw [Addr.add_mid, Nat.zero_add, hR.open.1]
  have e : (rowAt cs o j).toArray[i]? = (rowAt cs o j)[i]? := by simp
  rw [e, rowAt_get h (by omega), hG i j hi hj, ← hu, fvals_get (by rw [firsts_length]; exact hi)]
  unfold firsts
  rw [List.getElem_map, List.getElem_range, Nat.add_comm i (m * j)]

set_option maxHeartbeats 4000000 in
set_option maxRecDepth 100000 in
theorem implListOf (g o m k : Nat) (wb : Bool) (cs : Array Value) (t : TypeId) (F : Nat → Nat) (w : World) (hg : Blk w g cs t) (hs : o + 256 ≤ cs.size) (hone : cs.all (·.oneCell') = true) (hG : GR cs o m k F) (h1 : 3 ≤ m) (h2 : m ≤ 16) (h3 : 3 ≤ k) (h4 : k ≤ 16) :
    Calls Try.prog 130 #[.agg #[.int .i64 (m : Int), .int .i64 (k : Int), .bool wb], .pointer (some ⟨g, o, none⟩)] w fun e w' => ∃ a c, e = .returned (.slice a (m * k) c) ∧ OwnV w' w.heap.size a (fvals (firsts F (m * k))) ∧ Below w.heap.size w w' := by
  have hk' : (k : Int) ≤ 16 := by omega
  have hm' : (m : Int) ≤ 16 := by omega
  have hpos : 0 < m * k := Nat.mul_pos (by omega) (by omega)
  have hfew : m * k ≤ 256 := Nat.le_trans (Nat.mul_le_mul h2 h4) (by decide)
  obtain ⟨n, hn⟩ : ∃ n : Nat, n = m * k := ⟨_, rfl⟩
  have hn1 : n ≤ 256 := by rw [hn]; exact hfew
  have hn0 : 0 < n := by rw [hn]; exact hpos
  have HN : Hid ((m : Int) * (k : Int) = (n : Int)) := Lib.hid (by rw [hn]; simp)
  have c1 : 0 ≤ (m : Int) * (k : Int) := by rw [HN.out]; omega
  have c2 : (m : Int) * (k : Int) ≤ 256 := by rw [HN.out]; omega
  rw [← hn]
  have HN2 := Lib.hid hn; clear hn hpos hfew
  have HHG := Lib.hid hG; clear hG
  have hmk := make_f32cap n (by omega)
  have X := Blk.new w #[.int .i64 (m : Int), .int .i64 (k : Int), .bool wb] 80
  have G := hg.alloc (.cells #[.int .i64 (m : Int), .int .i64 (k : Int), .bool wb] 80)
  have HB : Hid (Below w.heap.size w (w.alloc (.cells #[.int .i64 (m : Int), .int .i64 (k : Int), .bool wb] 80))) := Lib.hid (below_new _ _)
  have hglt := hg.lt
  clear hg
  go_enter Try.func130, Try.ntmps130
  go_wp2_with fail
  generalize (w.alloc (.cells #[.int .i64 (m : Int), .int .i64 (k : Int), .bool wb] 80)) = u1 at *
  obtain ⟨Xc, Xf⟩ := X.open
  go_wp2_with fail
  refine (implCount _ _ _ _ c1 c2).mono ?_
  rintro r u2 ⟨rfl, q⟩
  clear Xc Xf
  replace X := X.later q; replace G := G.later q
  replace HB := Lib.hid (HB.out.trans (q.mono HB.out.size)); clear q
  rw [HN.out]
  clear c1 c2
  have OS : Hid (Outs u2 (u2.alloc (.cells (Array.replicate n (Value.float .f32 0)) 102)) (.slice (some ⟨u2.heap.size, 0, none⟩) 0 n) 0 []) := Lib.hid (outs_cap u2 n (by omega))
  have HS0 := HB.out.size
  obtain ⟨Xc, Xf⟩ := (X.alloc (.cells (Array.replicate n (Value.float .f32 0)) 102)).open
  go_wp2_with fail
  go_quiet (fail)
  clear Xc Xf hmk
  go_wp2

  go_loopw [17, 5] (fun iv v wr => ∃ j : Nat, j ≤ k ∧ iv = .int .i64 j ∧ Outs u2 wr v (m * j) (firsts F (m * j))) (fun iv _ _ => k - (intOf iv).toNat)
  case atStart => exact ⟨0, Nat.zero_le _, rfl, outs_later OS.out (below_drewN (Below.refl _ _) _)⟩
  clear OS
  obtain ⟨j, hj, rfl, hout⟩ := hrel
  have HO := Lib.hid hout; clear hout
  replace X := X.later HO.out.2.2; replace G := G.later HO.out.2.2
  by_cases hlt : j < k
  · skip
    have hjk : (j : Int) < (k : Int) := by omega
    have hrow : o + j * 16 + 16 ≤ cs.size := by omega
    have HL : Hid (firsts F (m * j + m) = firsts F (m * j) ++ firsts (fun i => F (m * j + i)) m) := Lib.hid (firsts_add F _ _)
    have HLL : Hid (m * (j + 1) = m * j + m) := Lib.hid (Nat.mul_succ m j)
    have HRL := Lib.hid (rowAt_length hrow)
    have HRS : Hid ((Try.prog.info? 121).map (·.size) = some (rowAt cs o j).length) := Lib.hid (by rw [HRL.out]; exact a16_size)
    have HR : Hid (wr.rangeAt g (o + j * 16) (rowAt cs o j)) := Lib.hid (World.rangeAt_of_block G (o + j * 16) 16)
    have HZS : Hid (z16.size = (rowAt cs o j).toArray.size) := Lib.hid (by show (16 : Nat) = _; rw [List.size_toArray, HRL.out])
    have HRS2 : Hid ((Try.prog.info? 121).map (·.size) = some (rowAt cs o j).toArray.size) := Lib.hid (by rw [List.size_toArray]; exact HRS.out)
    have HR1 := Lib.hid (rowAt_one (o := o) (j := j) hone)
    have NB := Blk.new wr z16 121
    obtain ⟨Xc, Xf⟩ := X.open
    have X2 := X.alloc (.cells z16 121)
    have G2 := G.alloc (.cells z16 121)
    have hxlt := X.lt
    go_upto_region 5 with (first
      | (refine wpList_load_mid rfl _ _ rfl g (o + j * 16) rfl (rowAt cs o j) _ HR.out Try.underlying121 rfl HRS.out ?_)
      | (refine wpList_alloc_big rfl _ rfl z16 a16_zero ?_)
      | (refine wpList_store_row rfl _ _ _ rfl wr.heap.size (rowAt cs o j).toArray rfl rfl 121 z16 NB HRS2.out HZS.out HR1.out ?_)
      | fail)
    have NB3 := NB.row (rowAt cs o j).toArray
    have X3 := X2.rowOther (show w.heap.size ≠ wr.heap.size by omega) (rowAt cs o j).toArray
    have B3 : Below wr.heap.size wr ((wr.alloc (.cells z16 121)).setRow wr.heap.size (rowAt cs o j).toArray) := below_setRow (below_new _ _) (Nat.le_refl _) _
    generalize ((wr.alloc (.cells z16 121)).setRow wr.heap.size (rowAt cs o j).toArray) = w3 at *
    have HO3 := Lib.hid (outs_later HO.out B3); clear HO
    have HNW := Lib.hid (rowAt_news NB3 hrow HHG.out h2 hlt)
    obtain ⟨Yc, Yf⟩ := X3.open
    clear Xc Xf
    obtain ⟨ti, hi0, hz0, hz1, hz2⟩ := info_parts Try.infoF32
    have HI := Lib.hid hi0; have HZ0 := Lib.hid hz0; have HZ1 := Lib.hid hz1; have HZ2 := Lib.hid hz2; clear hi0 hz0 hz1 hz2
    have HLN : Hid ((fvals (firsts (fun i => F (m * j + i)) m)).length = m) := Lib.hid (by rw [fvals_length, firsts_length])
    have HJ : m * j + m ≤ 256 := by rw [← HLL.out]; exact Nat.le_trans (Nat.mul_le_mul h2 (show j + 1 ≤ 16 by omega)) (by decide)
    have hown := HO3.out.2.1
    have sz3 := HO3.out.2.2.size
    go_wp2_with (at_builtin; (refine wpList_append_own _ rfl _ _ 22 rfl u2.heap.size 102 ti (.float .f32 0) 1 4 Try.underlying22 HI.out HZ0.out HZ1.out HZ2.out rfl (by decide) _ _ _ rfl hown ⟨wr.heap.size, 0, none⟩ m 16 (fvals (firsts (fun i => F (m * j + i)) m)) rfl (by rw [Nat.mul_one]; exact HLN.out) HNW.out (fvals_all _) (by unfold maxLen; omega) (by omega) sz3 ?_); intro v' w9 hown' hgrow _)
    have HO9 := Lib.hid (outs_more HO3.out (by rw [firsts_length]) hown' hgrow); clear hown hown' hgrow
    go_wp2
    go_roundw
    case rel => exact ⟨j + 1, by omega, by go_num, by rw [HLL.out, HL.out]; exact HO9.out⟩
    case measure => simp [intOf]; omega
  · skip
    obtain rfl : j = k := by omega
    have HO2 : Hid (Outs u2 wr u5 n (firsts F n)) := Lib.hid (by have := HO.out; rw [← HN2.out] at this; exact this); clear HO
    obtain ⟨a9, c9, rfl, hown, hb9⟩ := outs_end HO2.out hn0
    go_wp2
    go_ret
    exact ⟨a9, c9, rfl, hown.lower HS0, HB.out.trans (hb9.mono HS0)⟩

end Go.Proofs.Ytedfbaeajofmnaa

end

section

namespace Go.Proofs.Ytedfbaeajofmnaa
open Go Ieee Go.RowKit
set_option linter.unusedVariables false

theorem fold_list (off : Nat) : ∀ (l : List Value) (s : Nat) (b : Array Value), let r := (l.zipIdx s).foldl (fun cs (c : Value × Nat) => cs.setIfInBounds (off + c.2) c.1) b; r.size = b.size ∧ ∀ k, r[k]? = if off + s ≤ k ∧ k < off + s + l.length ∧ k < b.size then l[k - (off + s)]? else b[k]? := by
  intro l
  induction l with
  | nil => intro s b; exact ⟨rfl, fun k => by rw [if_neg (by simp; omega)]; rfl⟩
  | cons x l ih =>
    intro s b
    rw [List.zipIdx_cons, List.foldl_cons]
    obtain ⟨h1, h2⟩ := ih (s + 1) (b.setIfInBounds (off + s) x)
    refine ⟨by rw [h1, Array.size_setIfInBounds], fun k => ?_⟩
    rw [h2 k, Array.size_setIfInBounds, List.length_cons]
    by_cases e : k = off + s
    · subst e
      rw [if_neg (by omega)]
      by_cases hb : off + s < b.size
      · rw [if_pos (by omega), Array.getElem?_setIfInBounds_self_of_lt hb, Nat.sub_self]; rfl
      · rw [if_neg (by omega), Array.getElem?_eq_none (by rw [Array.size_setIfInBounds]; omega), Array.getElem?_eq_none (by omega)]
    · rw [Array.getElem?_setIfInBounds_ne (by omega)]
      by_cases hc : off + s ≤ k ∧ k < off + s + (l.length + 1) ∧ k < b.size
      · rw [if_pos (by omega), if_pos hc, show k - (off + s) = (k - (off + (s + 1))) + 1 by omega, List.getElem?_cons_succ]
      · rw [if_neg (by omega), if_neg hc]

theorem fold_get (off : Nat) (A b : Array Value) : (A.zipIdx.foldl (fun cs (c : Value × Nat) => cs.setIfInBounds (off + c.2) c.1) b).size = b.size ∧ ∀ k, (A.zipIdx.foldl (fun cs (c : Value × Nat) => cs.setIfInBounds (off + c.2) c.1) b)[k]? = if off ≤ k ∧ k < off + A.size ∧ k < b.size then A[k - off]? else b[k]? := by
  have := fold_list off A.toList 0 b
  have e : A.zipIdx.foldl (fun cs (c : Value × Nat) => cs.setIfInBounds (off + c.2) c.1) b = (A.toList.zipIdx 0).foldl (fun cs (c : Value × Nat) => cs.setIfInBounds (off + c.2) c.1) b := by
    rw [← Array.foldl_toList, Array.toList_zipIdx]
  rw [e]
  refine ⟨this.1, fun k => ?_⟩
  rw [this.2 k]
  simp

theorem fill_one {place : Nat → Option (Nat × Nat)} {b A : Array Value} {i off n : Nat} {rest : List (Nat × Value)} (hp : place i = some (off, n)) (hA : A.size = n) (hb : off + n ≤ b.size) :
    Instr.fill place b ((i, .agg A) :: rest) = Instr.fill place (A.zipIdx.foldl (fun cs (c : Value × Nat) => cs.setIfInBounds (off + c.2) c.1) b) rest := by
  rw [Instr.fill]
  simp only [hp]
  rw [if_neg (by simp [Value.cells, hA]; omega)]
  rfl

theorem grid_places : (Try.prog.info? 125).bind (fun i => i.zero.map Value.cells) = some zgrid := by kernel_rfl

theorem grid_built {A B C : Array Value} (hA : AF 256 A) (hB : AF 256 B) (hC : AF 256 C) : ∃ cs, Try.prog.built 125 [(0, .agg A), (1, .agg B), (2, .agg C)] = some cs ∧ AF 768 cs ∧ ∀ i, i < 256 → cs[i]? = A[i]? ∧ cs[256 + i]? = B[i]? ∧ cs[512 + i]? = C[i]? := by
  obtain ⟨s1, f1⟩ := fold_get 0 A zgrid
  obtain ⟨s2, f2⟩ := fold_get 256 B (A.zipIdx.foldl (fun cs (c : Value × Nat) => cs.setIfInBounds (0 + c.2) c.1) zgrid)
  obtain ⟨s3, f3⟩ := fold_get 512 C (B.zipIdx.foldl (fun cs (c : Value × Nat) => cs.setIfInBounds (256 + c.2) c.1) (A.zipIdx.foldl (fun cs (c : Value × Nat) => cs.setIfInBounds (0 + c.2) c.1) zgrid))
  have z : zgrid.size = 768 := Array.size_replicate
  have e : Try.prog.built 125 [(0, .agg A), (1, .agg B), (2, .agg C)] = Instr.fill (#[(0, 256), (256, 256), (512, 256)][·]?) zgrid [(0, .agg A), (1, .agg B), (2, .agg C)] := by kernel_rfl
  rw [fill_one rfl hA.1 (by rw [z]; decide), fill_one rfl hB.1 (by rw [s1, z]; decide), fill_one rfl hC.1 (by rw [s2, s1, z]; decide), Instr.fill] at e
  refine ⟨_, e, ⟨by rw [s3, s2, s1, z], ?_⟩, fun i hi => ⟨?_, ?_, ?_⟩⟩
  · rw [Array.all_eq_true_iff_forall_mem]
    intro v hv
    obtain ⟨k, hk⟩ := Array.mem_iff_getElem?.1 hv
    have key : ∀ {A : Array Value} {k : Nat} {v : Value}, AF 256 A → A[k]? = some v → v.oneCell' = true := fun h hk => (Array.all_eq_true_iff_forall_mem.1 h.2) _ (Array.mem_iff_getElem?.2 ⟨_, hk⟩)
    rw [f3] at hk
    split at hk
    · exact key hC hk
    · rw [f2] at hk
      split at hk
      · exact key hB hk
      · rw [f1] at hk
        split at hk
        · exact key hA hk
        · have := Array.mem_iff_getElem?.2 ⟨_, hk⟩
          rw [(Array.mem_replicate.1 this).2]; rfl
  · rw [f3, if_neg (by omega), f2, if_neg (by omega), f1, if_pos (by rw [hA.1, z]; omega)]; simp
  · rw [f3, if_neg (by omega), f2, if_pos (by rw [hB.1, s1, z]; omega)]; simp
  · rw [f3, if_pos (by rw [hC.1, s2, s1, z]; omega)]; simp

theorem wpList_build_is {P : Program} {ops : Array Oper} {rest : List Oper} {o : Oper} {a : Act} {w : World} {Q : Exit → Act → World → Prop} (hg : o.guard = none) (t : TypeId) (parts : Array (Nat × Operand)) (ho : o.op = .build t parts) (cells : Array Value)
    (hb : P.built t (parts.map fun (i, x) => (i, a.eval x)).toList = some cells) (h : wpList P ops Q rest (a.put o.dst (.agg cells)) w) : wpList P ops Q (o :: rest) a w :=
  wpList_build hg t parts ho (by rw [hb]; rfl) (by rw [hb]; exact h)

theorem row_same {w : World} {a : Option Addr} {xs ys : List Nat} (h : RowV w a (fvals xs)) (k : RowV w a (fvals ys)) (hl : xs.length = ys.length) : xs = ys := by
  apply List.ext_getElem hl
  intro i h1 h2
  obtain ⟨b, o, rfl, hc⟩ := h i _ (fvals_get h1)
  obtain ⟨b', o', e, hc'⟩ := k i _ (fvals_get h2)
  cases e
  rw [hc] at hc'
  injection hc' with e
  injection e

/-- what a call of rowsOf may hand back in worlds that grow from u -/
def SpRows (u : World) (m k : Nat) (wb : Bool) (_ : FuncId) (args : Array Value) (v : Value) : Prop := ∃ cs, v = .agg cs ∧ AF 256 cs ∧ ∀ a xs, args = #[.agg #[.int .i64 (m : Int), .int .i64 (k : Int), .bool wb], .slice a xs.length xs.length] → RowV u a (fvals xs) → GR cs 0 m k (fun i => xs.getD i 0)

theorem spRows {u w' : World} {m k : Nat} {wb : Bool} {a : Option Addr} {xs : List Nat} (hu : Grows u w') (ha : RowV u a (fvals xs)) (hl : xs.length = m * k) (h1 : 3 ≤ m) (h2 : m ≤ 16) (h3 : 3 ≤ k) (h4 : k ≤ 16) :
    Calls Try.prog 131 #[.agg #[.int .i64 (m : Int), .int .i64 (k : Int), .bool wb], .slice a xs.length xs.length] w' fun e w'' => ∃ v, e = .returned v ∧ SpRows u m k wb 131 #[.agg #[.int .i64 (m : Int), .int .i64 (k : Int), .bool wb], .slice a xs.length xs.length] v ∧ Grows u w'' :=
  (implRowsOf m k wb a xs w' (ha.later hu) hl h1 h2 h3 h4).mono fun e w'' ⟨cs, he, h, hG, hb⟩ => ⟨.agg cs, he, ⟨cs, rfl, h, fun a' ys hh hr => by
    have e2 : a = a' ∧ xs.length = ys.length := by
      have := congrArg (fun z : Array Value => z[1]?) hh
      simp only [List.getElem?_toArray, List.getElem?_cons_succ, List.getElem?_cons_zero, Option.some.injEq, Value.slice.injEq] at this
      exact ⟨this.1, this.2.1⟩
    obtain ⟨rfl, hl2⟩ := e2
    rw [← row_same ha hr hl2]; exact hG⟩, Grows.next hu hb⟩

set_option maxHeartbeats 4000000 in
set_option maxRecDepth 100000 in
theorem implGridOf (m k : Nat) (wb : Bool) (a0 a1 a2 : Option Addr) (e x y : List Nat) (w : World) (r0 : RowV w a0 (fvals e)) (r1 : RowV w a1 (fvals x)) (r2 : RowV w a2 (fvals y)) (l0 : e.length = m * k) (l1 : x.length = m * k) (l2 : y.length = m * k) (h1 : 3 ≤ m) (h2 : m ≤ 16) (h3 : 3 ≤ k) (h4 : k ≤ 16) :
    Calls Try.prog 91 #[.agg #[.int .i64 (m : Int), .int .i64 (k : Int), .bool wb], .agg #[.slice a0 e.length e.length, .slice a1 x.length x.length, .slice a2 y.length y.length]] w fun r w' => ∃ cs, r = .returned (.agg cs) ∧ GF cs m k (fun i => e.getD i 0) (fun i => x.getD i 0) (fun i => y.getD i 0) ∧ Below w.heap.size w w' := by
  have aslc : ∀ w, (isAgg 22).run Try.prog w = .ok false w := fun w => by kernel_rfl
  have L0 := Lib.hid l0; have L1 := Lib.hid l1; have L2 := Lib.hid l2; clear l0 l1 l2
  have X := ((Blk.new w #[.int .i64 (m : Int), .int .i64 (k : Int), .bool wb] 80).alloc (.cells #[.slice a0 e.length e.length, .slice a1 x.length x.length, .slice a2 y.length y.length] 38)).alloc (.cells zgrid 125)
  have Y := (Blk.new1 w (.cells #[.int .i64 (m : Int), .int .i64 (k : Int), .bool wb] 80) #[.slice a0 e.length e.length, .slice a1 x.length x.length, .slice a2 y.length y.length] 38).alloc (.cells zgrid 125)
  have G := Blk.new2 w (.cells #[.int .i64 (m : Int), .int .i64 (k : Int), .bool wb] 80) (.cells #[.slice a0 e.length e.length, .slice a1 x.length x.length, .slice a2 y.length y.length] 38) zgrid 125
  have HB : Hid (Below w.heap.size w (((w.alloc (.cells #[.int .i64 (m : Int), .int .i64 (k : Int), .bool wb] 80)).alloc (.cells #[.slice a0 e.length e.length, .slice a1 x.length x.length, .slice a2 y.length y.length] 38)).alloc (.cells zgrid 125))) := Lib.hid ((((Below.refl w.heap.size w).alloc (by simp <;> omega) _).alloc (by simp <;> omega) _).alloc (by simp <;> omega) _)
  go_enter Try.func91, Try.ntmps91
  go_wp2_with (first | (refine wpList_alloc_big rfl _ rfl zgrid grid_zero ?_; (try simp only [World.size_alloc])) | fail)
  generalize (((w.alloc (.cells #[.int .i64 (m : Int), .int .i64 (k : Int), .bool wb] 80)).alloc (.cells #[.slice a0 e.length e.length, .slice a1 x.length x.length, .slice a2 y.length y.length] 38)).alloc (.cells zgrid 125)) = u1 at *
  have R0 := Lib.hid (r0.later HB.out); have R1 := Lib.hid (r1.later HB.out); have R2 := Lib.hid (r2.later HB.out); clear r0 r1 r2
  obtain ⟨Yc, Yf⟩ := Y.open
  refine wp_region_rel_tail (Grows u1) (SpRows u1 m k wb) 12 (by kernel_rfl) (by kernel_rfl) (Grows.drew _) ?_
  simp only [List.take_succ_cons, List.take_zero, List.drop_succ_cons, List.drop_zero]
  (refine wpRel_load rfl _ rfl (_) (fun w' hw' => run_loadVar_row w' _ _ _ _ _ _ (X.later hw') Try.underlying80 rfl (by kernel_rfl)) ?_; simp only [Act.put, List.setIfInBounds_toArray, List.set_cons_zero, List.set_cons_succ])
  (refine wpRel_plain rfl rfl ?_; intro K hK; go_big_quiet_op; (first | go_big_quiet_on | (refine ⟨_, fun _ _ => rfl, ?_⟩; go_big_quiet_on)))
  (refine wpRel_load rfl _ rfl (.slice a0 e.length e.length) (load_cell aslc (Yc 0)) ?_; simp only [Act.put, List.setIfInBounds_toArray, List.set_cons_zero, List.set_cons_succ])
  (refine wpRel_callC rfl 131 _ rfl Try.func131 (by kernel_rfl) (by kernel_rfl) [.agg #[.int .i64 (m : Int), .int .i64 (k : Int), .bool wb], .slice a0 e.length e.length] rfl (fun w' hw' => spRows hw' R0.out L0.out h1 h2 h3 h4) ?_; rintro v ⟨A0, rfl, HA0, HG0⟩; replace HG0 := Lib.hid (HG0 a0 e rfl R0.out); replace HA0 := Lib.hid HA0; simp only [Act.put, List.setIfInBounds_toArray, List.set_cons_zero, List.set_cons_succ])
  (refine wpRel_load rfl _ rfl (_) (fun w' hw' => run_loadVar_row w' _ _ _ _ _ _ (X.later hw') Try.underlying80 rfl (by kernel_rfl)) ?_; simp only [Act.put, List.setIfInBounds_toArray, List.set_cons_zero, List.set_cons_succ])
  (refine wpRel_plain rfl rfl ?_; intro K hK; go_big_quiet_op; (first | go_big_quiet_on | (refine ⟨_, fun _ _ => rfl, ?_⟩; go_big_quiet_on)))
  (refine wpRel_load rfl _ rfl (.slice a1 x.length x.length) (load_cell aslc (Yc 1)) ?_; simp only [Act.put, List.setIfInBounds_toArray, List.set_cons_zero, List.set_cons_succ])
  (refine wpRel_callC rfl 131 _ rfl Try.func131 (by kernel_rfl) (by kernel_rfl) [.agg #[.int .i64 (m : Int), .int .i64 (k : Int), .bool wb], .slice a1 x.length x.length] rfl (fun w' hw' => spRows hw' R1.out L1.out h1 h2 h3 h4) ?_; rintro v ⟨A1, rfl, HA1, HG1⟩; replace HG1 := Lib.hid (HG1 a1 x rfl R1.out); replace HA1 := Lib.hid HA1; simp only [Act.put, List.setIfInBounds_toArray, List.set_cons_zero, List.set_cons_succ])
  (refine wpRel_load rfl _ rfl (_) (fun w' hw' => run_loadVar_row w' _ _ _ _ _ _ (X.later hw') Try.underlying80 rfl (by kernel_rfl)) ?_; simp only [Act.put, List.setIfInBounds_toArray, List.set_cons_zero, List.set_cons_succ])
  (refine wpRel_plain rfl rfl ?_; intro K hK; go_big_quiet_op; (first | go_big_quiet_on | (refine ⟨_, fun _ _ => rfl, ?_⟩; go_big_quiet_on)))
  (refine wpRel_load rfl _ rfl (.slice a2 y.length y.length) (load_cell aslc (Yc 2)) ?_; simp only [Act.put, List.setIfInBounds_toArray, List.set_cons_zero, List.set_cons_succ])
  (refine wpRel_callC rfl 131 _ rfl Try.func131 (by kernel_rfl) (by kernel_rfl) [.agg #[.int .i64 (m : Int), .int .i64 (k : Int), .bool wb], .slice a2 y.length y.length] rfl (fun w' hw' => spRows hw' R2.out L2.out h1 h2 h3 h4) ?_; rintro v ⟨A2, rfl, HA2, HG2⟩; replace HG2 := Lib.hid (HG2 a2 y rfl R2.out); replace HA2 := Lib.hid HA2; simp only [Act.put, List.setIfInBounds_toArray, List.set_cons_zero, List.set_cons_succ])
  refine wpRel_nil ?_
  intro w1 q1
  replace q1 : Below u1.heap.size u1 w1 := q1
  replace G := G.later q1
  replace HB := Lib.hid (HB.out.trans (q1.mono HB.out.size))
  obtain ⟨cs, hb, hAF, hI⟩ := grid_built HA0.out HA1.out HA2.out
  have HGF : Hid (GF cs m k (fun i => e.getD i 0) (fun i => x.getD i 0) (fun i => y.getD i 0)) := Lib.hid ⟨hAF, fun x y hx hy => by
      rw [Nat.zero_add, (hI _ (by omega)).1]; have := HG0.out x y hx hy; rwa [Nat.zero_add] at this, fun x y hx hy => by
      rw [(hI _ (by omega)).2.1]; have := HG1.out x y hx hy; rwa [Nat.zero_add] at this, fun x y hx hy => by
      rw [(hI _ (by omega)).2.2]; have := HG2.out x y hx hy; rwa [Nat.zero_add] at this⟩
  have HBB := Lib.hid hb
  have HS2 : Hid ((Try.prog.info? 125).map (·.size) = some cs.size) := Lib.hid (by rw [hAF.1]; exact grid_size)
  have HS3 : Hid (zgrid.size = cs.size) := Lib.hid (by rw [hAF.1]; exact Array.size_replicate)
  have HAF := Lib.hid hAF
  clear hb hAF hI q1 Yc Yf X Y
  refine wpList_build_is rfl _ _ rfl cs (by rw [List.map_toArray]; exact HBB.out) ?_
  refine wpList_store_row rfl _ _ _ rfl _ cs rfl rfl 125 zgrid G HS2.out HS3.out HAF.out.2 ?_
  go_wp2
  refine bodyPost_ret (v := .agg cs) (results_cell_row rfl _ _ (w.heap.size + 1 + 1) 125 cs (0, 0) _ rfl (G.row _) Try.underlying125 rfl HS2.out) rfl ⟨cs, rfl, HGF.out, below_setRow HB.out (by omega) _⟩

end Go.Proofs.Ytedfbaeajofmnaa

end

section

namespace Go.Proofs.Ytedfbaeajofmnaa
open Go Ieee Go.RowKit
set_option linter.unusedVariables false

theorem blk_heldR1 {u w' : World} {R g : Nat} {cs : Array Value} {t : TypeId} {A : Prop} (G : Blk u g cs t) (ne : g ≠ R) (k : A ∧ u.grownBy w' (some R)) : Blk w' g cs t := G.grown k.2 (fun h => ne (Option.some.inj h))

theorem own_at {w : World} {B : Nat} {a : Option Addr} {vs : List Value} (h : OwnV w B a vs) (hv : vs ≠ []) : ∃ g, a = some ⟨g, 0, none⟩ := by
  rcases h with ⟨_, h0⟩ | ⟨g, cs, e, rfl, _⟩
  · exact absurd h0 hv
  · exact ⟨g, rfl⟩

theorem implListOfS (g o m k n : Nat) (wb : Bool) (cs : Array Value) (t : TypeId) (F : Nat → Nat) (w : World) (hg : Blk w g cs t) (hs : o + 256 ≤ cs.size) (hone : cs.all (·.oneCell') = true) (hG : GR cs o m k F) (h1 : 3 ≤ m) (h2 : m ≤ 16) (h3 : 3 ≤ k) (h4 : k ≤ 16) (hn : Hid (n = m * k)) :
    Calls Try.prog 130 #[.agg #[.int .i64 (m : Int), .int .i64 (k : Int), .bool wb], .pointer (some ⟨g, o, none⟩)] w fun e w' => ∃ gg c, e = .returned (.slice (some ⟨gg, 0, none⟩) n c) ∧ OwnV w' w.heap.size (some ⟨gg, 0, none⟩) (fvals (firsts F n)) ∧ Below w.heap.size w w' :=
  (implListOf g o m k wb cs t F w hg hs hone hG h1 h2 h3 h4).mono fun e w' ⟨a, c, he, ho, hb⟩ => by
    rw [← hn.out] at he ho
    have hne : fvals (firsts F n) ≠ [] := by
      intro h0
      have := congrArg List.length h0
      rw [fvals_length, firsts_length, hn.out] at this
      have : 0 < m * k := Nat.mul_pos (by omega) (by omega)
      simp_all
    obtain ⟨gg, rfl⟩ := own_at ho hne
    exact ⟨gg, c, he, ho, hb⟩

/-- a field of the call's own, of given numbers -/
structure NewField (B : Nat) (w w' : World) (n : Nat) (E X Y : Nat → Nat) (g0 g1 g2 : Nat) : Prop where
  o0 : OwnV w' B (some ⟨g0, 0, none⟩) (fvals (firsts E n))
  o1 : OwnV w' B (some ⟨g1, 0, none⟩) (fvals (firsts X n))
  o2 : OwnV w' B (some ⟨g2, 0, none⟩) (fvals (firsts Y n))
  p01 : g0 ≠ g1
  p02 : g0 ≠ g2
  p12 : g1 ≠ g2
  below : Below B w w'

set_option maxHeartbeats 4000000 in
set_option maxRecDepth 100000 in
theorem implFieldOf (m k n : Nat) (wb : Bool) (cs : Array Value) (E X Y : Nat → Nat) (w : World) (hG : GF cs m k E X Y) (h1 : 3 ≤ m) (h2 : m ≤ 16) (h3 : 3 ≤ k) (h4 : k ≤ 16) (hn : Hid (n = m * k)) :
    Calls Try.prog 90 #[.agg #[.int .i64 (m : Int), .int .i64 (k : Int), .bool wb], .agg cs] w fun r w' => ∃ g0 g1 g2 c0 c1 c2, r = .returned (.agg #[.slice (some ⟨g0, 0, none⟩) n c0, .slice (some ⟨g1, 0, none⟩) n c1, .slice (some ⟨g2, 0, none⟩) n c2]) ∧ NewField w.heap.size w w' n E X Y g0 g1 g2 := by
  obtain ⟨⟨hsz, hone⟩, g0, g1, g2⟩ := hG
  have HE := Lib.hid hone; have HG0 := Lib.hid g0; have HG1 := Lib.hid g1; have HG2 := Lib.hid g2; clear hone g0 g1 g2
  have HSZ := Lib.hid hsz; clear hsz
  have hs0 : Hid (0 + 256 ≤ cs.size) := Lib.hid (by rw [HSZ.out]; decide); have hs1 : Hid (256 + 256 ≤ cs.size) := Lib.hid (by rw [HSZ.out]; decide); have hs2 : Hid (512 + 256 ≤ cs.size) := Lib.hid (by rw [HSZ.out]; decide)
  have Z := Blk.new w #[.int .i64 (m : Int), .int .i64 (k : Int), .bool wb] 80
  have G := Blk.new1 w (.cells #[.int .i64 (m : Int), .int .i64 (k : Int), .bool wb] 80) cs 125
  replace Z := Z.alloc (.cells cs 125)
  have R := Blk.new2 w (.cells #[.int .i64 (m : Int), .int .i64 (k : Int), .bool wb] 80) (.cells cs 125) #[.slice none 0 0, .slice none 0 0, .slice none 0 0] 38
  replace Z := Z.alloc (.cells #[.slice none 0 0, .slice none 0 0, .slice none 0 0] 38)
  replace G := G.alloc (.cells #[.slice none 0 0, .slice none 0 0, .slice none 0 0] 38)
  have HB : Hid (Below w.heap.size w (((w.alloc (.cells #[.int .i64 (m : Int), .int .i64 (k : Int), .bool wb] 80)).alloc (.cells cs 125)).alloc (.cells #[.slice none 0 0, .slice none 0 0, .slice none 0 0] 38))) := Lib.hid ((((Below.refl w.heap.size w).alloc (by simp <;> omega) _).alloc (by simp <;> omega) _).alloc (by simp <;> omega) _)
  go_enter Try.func90, Try.ntmps90
  go_wp2_with fail
  generalize (((w.alloc (.cells #[.int .i64 (m : Int), .int .i64 (k : Int), .bool wb] 80)).alloc (.cells cs 125)).alloc (.cells #[.slice none 0 0, .slice none 0 0, .slice none 0 0] 38)) = u1 at *
  have zR := R.lt; have neG : w.heap.size + 1 ≠ w.heap.size + 1 + 1 := by omega
  obtain ⟨Zc, Zf⟩ := Z.open
  go_wp2_with fail
  clear Zc Zf
  obtain ⟨Zc, Zf⟩ := Z.open
  clear Zc Zf
  have neZ : w.heap.size ≠ w.heap.size + 1 + 1 := by omega
  have tk0 : True := trivial
  have tk1 : True := trivial
  have tk2 : True := trivial
  go_region_held3 (fun w' => (∀ i, w'.cell? ⟨w.heap.size, i, none⟩ = (#[.int .i64 (m : Int), .int .i64 (k : Int), .bool wb] : Array Value)[i]?) ∧ u1.grownBy w' (some (w.heap.size + 1 + 1))) (first | with_reducible exact keepR1_start Z | with_reducible exact keepR1_later Z neZ (by assumption) (by assumption) | exact keepR1_set3 Z neZ (by assumption) _ _ _)
    (first
      | (go_at_call 130; have _t := tk0; clear _t tk0; (with_reducible refine (implListOfS _ 0 m k n wb cs _ E _ (blk_heldR1 G neG (by assumption)) hs0.out HE.out HG0.out h1 h2 h3 h4 hn).mono ?_); rintro r u2 ⟨gg0, cc0, rfl, oo0, qa0⟩)
      | (go_at_call 130; have _t := tk1; clear _t tk1; (with_reducible refine (implListOfS _ 256 m k n wb cs _ X _ (blk_heldR1 G neG (by assumption)) hs1.out HE.out HG1.out h1 h2 h3 h4 hn).mono ?_); rintro r u3 ⟨gg1, cc1, rfl, oo1, qa1⟩)
      | (go_at_call 130; have _t := tk2; clear _t tk2; (with_reducible refine (implListOfS _ 512 m k n wb cs _ Y _ (blk_heldR1 G neG (by assumption)) hs2.out HE.out HG2.out h1 h2 h3 h4 hn).mono ?_); rintro r u4 ⟨gg2, cc2, rfl, oo2, qa2⟩; obtain ⟨Rc, Rf⟩ := (R.later (below_next (below_next (below_next (below_drew u1) qa0) qa1) qa2)).open))
  go_wp2
  have z0 := HB.out.size
  have y1 : u1.heap.size ≤ u2.heap.size := qa0.size; have y2 : u2.heap.size ≤ u3.heap.size := qa1.size; have y3 : u3.heap.size ≤ u4.heap.size := qa2.size
  have g1 := (oo0.span _ rfl).2; have g2 := (oo1.span _ rfl).2; have g3 := (oo2.span _ rfl).2; dsimp only at g1 g2 g3; have h1 : u1.heap.size ≤ gg0 := oo0.bound gg0 rfl; have h2 : u2.heap.size ≤ gg1 := oo1.bound gg1 rfl; have h3 : u3.heap.size ≤ gg2 := oo2.bound gg2 rfl
  have e0 : u1.drew.heap.size = u1.heap.size := rfl
  refine bodyPost_ret (v := .agg #[.slice (some ⟨gg0, 0, none⟩) n cc0, .slice (some ⟨gg1, 0, none⟩) n cc1, .slice (some ⟨gg2, 0, none⟩) n cc2]) (by simp [results, Try.results90, go_sem, Rc]) rfl ⟨gg0, gg1, gg2, cc0, cc1, cc2, rfl, ⟨((((((oo0.later qa1).later qa2).lower (show w.heap.size ≤ _ by omega)).set (p := ⟨w.heap.size + 1 + 1, 0, none⟩) (ne_block (h := w.heap.size + 1 + 1) (by omega)) _).set (p := ⟨w.heap.size + 1 + 1, 1, none⟩) (ne_block (h := w.heap.size + 1 + 1) (by omega)) _).set (p := ⟨w.heap.size + 1 + 1, 2, none⟩) (ne_block (h := w.heap.size + 1 + 1) (by omega)) _), (((((oo1.later qa2).lower (show w.heap.size ≤ _ by omega)).set (p := ⟨w.heap.size + 1 + 1, 0, none⟩) (ne_block (h := w.heap.size + 1 + 1) (by omega)) _).set (p := ⟨w.heap.size + 1 + 1, 1, none⟩) (ne_block (h := w.heap.size + 1 + 1) (by omega)) _).set (p := ⟨w.heap.size + 1 + 1, 2, none⟩) (ne_block (h := w.heap.size + 1 + 1) (by omega)) _), (((((oo2).lower (show w.heap.size ≤ _ by omega)).set (p := ⟨w.heap.size + 1 + 1, 0, none⟩) (ne_block (h := w.heap.size + 1 + 1) (by omega)) _).set (p := ⟨w.heap.size + 1 + 1, 1, none⟩) (ne_block (h := w.heap.size + 1 + 1) (by omega)) _).set (p := ⟨w.heap.size + 1 + 1, 2, none⟩) (ne_block (h := w.heap.size + 1 + 1) (by omega)) _), by omega, by omega, by omega, ((((HB.out.trans ((below_next (below_next (below_next (below_drew u1) qa0) qa1) qa2).mono HB.out.size)).setCell (p := ⟨w.heap.size + 1 + 1, 0, none⟩) (by first | omega | (simp <;> omega)) _).setCell (p := ⟨w.heap.size + 1 + 1, 1, none⟩) (by first | omega | (simp <;> omega)) _).setCell (p := ⟨w.heap.size + 1 + 1, 2, none⟩) (by first | omega | (simp <;> omega)) _)⟩⟩

end Go.Proofs.Ytedfbaeajofmnaa

end
