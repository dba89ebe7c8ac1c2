/- Sums of two fields: the program's answer and the model's. Conditions: none beyond those of each theorem. -/
import Derived.Test.YtkcododhfliobabScale
namespace Go.Proofs.Ytkcododhfliobab
open Go Ieee Go.RowKit
set_option linter.unusedVariables false

def addC (xs zs : List Nat) : List (Option Nat) := List.zipWith (fun x z => fop .add .f32 (canon .f32 x) (canon .f32 z)) xs zs

/-- what a list is behind k sums -/
def AddTo (xs zs : List Nat) (k : Nat) (L : List Nat) : Prop := L.length = xs.length ∧ (∀ z ∈ L, z < 2 ^ 32) ∧ ∀ j (_ : j < L.length) (h' : j < xs.length) (h'' : j < zs.length), j < k → canon .f32 L[j] = fop .add .f32 (canon .f32 xs[j]) (canon .f32 zs[j])

theorem addTo_next {xs zs : List Nat} {k : Nat} {L : List Nat} {v : Nat} (h : AddTo xs zs k L) (hk : k < xs.length) (hz : k < zs.length) (hv : v < 2 ^ 32) (hc : canon .f32 v = fop .add .f32 (canon .f32 xs[k]) (canon .f32 zs[k])) : AddTo xs zs (k + 1) (L.set k v) := by
  obtain ⟨h1, h2, h3⟩ := h
  refine ⟨by rw [List.length_set]; exact h1, fun z hz' => ?_, fun j hj hj' hj'' hjk => ?_⟩
  · rcases List.mem_or_eq_of_mem_set hz' with h' | h'
    · exact h2 _ h'
    · rw [h']; exact hv
  · rw [List.getElem_set]
    split
    · rename_i e; subst e; exact hc
    · exact h3 j (by rw [List.length_set] at hj; exact hj) hj' hj'' (by omega)

theorem addTo_all {xs zs : List Nat} {k : Nat} {L : List Nat} (h : AddTo xs zs k L) (hl : zs.length = xs.length) (hk : xs.length ≤ k) (hf : xs.length ≤ 256) : Is L (addC xs zs) := by
  obtain ⟨h1, h2, h3⟩ := h
  refine ⟨?_, h2, by omega⟩
  apply List.ext_getElem
  · unfold cl addC; rw [List.length_map, List.length_zipWith, h1, hl, Nat.min_self]
  · intro i hi hi'
    unfold cl addC at *
    rw [List.getElem_map, List.getElem_zipWith]
    rw [List.length_zipWith] at hi'
    exact h3 i (by simpa using hi) (by omega) (by omega) (by omega)

theorem row_heldR3a {w u w' : World} {R : Nat} {a : Option Addr} {vs : List Value} {A B C : Prop} (h : RowV w a vs) (hu : Below w.heap.size w u) (hR : w.heap.size ≤ R) (k : A ∧ B ∧ C ∧ u.grownBy w' (some R)) : RowV w' a vs := h.later (hu.grown k.2.2.2 hu.size (fun j hj => by cases hj; exact hR))

set_option maxHeartbeats 2000000 in
theorem implAddLists (a : Option Addr) (ca : Nat) (xs : List Nat) (a2 : Option Addr) (c2 : Nat) (zs : List Nat) (w : World) (ha : RowV w a (fvals xs)) (h2 : RowV w a2 (fvals zs)) (hl : zs.length = xs.length) (hn : xs.length ≤ 256) :
    Calls Try.prog 76 #[.slice a xs.length ca, .slice a2 zs.length c2] w fun e w' => ∃ g L, e = .returned (.slice (some ⟨g, 0, none⟩) L.length L.length) ∧ OwnV w' w.heap.size (some ⟨g, 0, none⟩) (fvals L) ∧ Is L (addC xs zs) ∧ Below w.heap.size w w' := by
  obtain ⟨i0, hi, hz0, hz1, hz2⟩ := info_parts Try.infoF32
  have HT : Hid (∀ L, AddTo xs zs xs.length L → Is L (addC xs zs)) := Lib.hid (fun L h => addTo_all h hl (Nat.le_refl _) hn)
  have hstart : AddTo xs zs 0 (List.replicate xs.length 0) := ⟨by simp, fun z hz => by rw [(List.mem_replicate.1 hz).2]; decide, fun j _ _ _ h => by omega⟩
  generalize hlen : xs.length = n at hn hstart hl ⊢
  have HL := Lib.hid hlen; have HL2 := Lib.hid hl
  rw [hl]
  rw [hlen] at HT
  clear hlen hl
  have hn1 : (n : Int) ≤ 256 := by omega
  have hbytes : i0.bytes * n ≤ 281474976710656 := by rw [hz2]; omega
  have HI := Lib.hid hi
  have HZ0 := Lib.hid hz0
  have HZ1 := Lib.hid hz1
  clear hi hz0 hz1 hz2
  go_enter Try.func76, Try.ntmps76
  go_wp2_with (at_make; refine wpList_make_full _ rfl _ _ 22 rfl w.heap.size 40 i0 (.float .f32 0) 1 Try.underlying22 HI.out HZ0.out HZ1.out .i64 .i64 _ _ n rfl rfl rfl rfl hbytes (by unfold maxLen; omega) (Nat.le_refl _) ?_; intro w1 hown hgrow)
  have hown' : OwnV w1 w.heap.size (some ⟨w.heap.size, 0, none⟩) (fvals (List.replicate n 0)) := by
    have h2 := OwnV.of_owned hown
    rw [show (Value.float FloatKind.f32 0).cells = #[.float .f32 0] from rfl, Nat.mul_one, toList_madeCells_one] at h2
    unfold fvals; rw [List.map_replicate]; exact h2
  have hbel : Below w.heap.size w w1 := (Below.refl w.heap.size w).grown hgrow (Nat.le_refl _) (fun k hk => by cases hk)
  clear hown hgrow
  have HST := Lib.hid hstart; clear hstart
  go_wp2
  go_loopw [6, 7, 13] (fun _ _ i wr => ∃ (k : Nat) (L : List Nat), k ≤ n ∧ i = .int .i64 k ∧ AddTo xs zs k L ∧ OwnV wr w.heap.size (some ⟨w.heap.size, 0, none⟩) (fvals L) ∧ Below w.heap.size w wr) (fun _ _ i _ => n - (intOf i).toNat)
  case atStart => exact ⟨0, _, Nat.zero_le _, rfl, HST.out, hown', hbel⟩
  case round =>
    obtain ⟨k, L, hk, rfl, hM, hown, hb⟩ := hrel
    have HO := Lib.hid hown
    have HW := Lib.hid hb
    have HM := Lib.hid hM
    clear hown hb hown' hbel hM
    by_cases hlt : k < n
    · have k1 : k < xs.length := by rw [HL.out]; exact hlt
      have k2 : k < zs.length := by rw [HL2.out]; exact hlt
      have kL : k < L.length := by rw [HM.out.1]; exact k1
      obtain ⟨b, off, rfl, hc⟩ := ha k _ (fvals_get k1)
      have hc2 : wr.cell? ⟨b, off + k, none⟩ = some (.float .f32 xs[k]) := by
        rw [Below.cell HW.out (p := ⟨b, off + k, none⟩) (lt_of_cell hc)]; exact hc
      obtain ⟨b2, off2, rfl, hd⟩ := h2 k _ (fvals_get k2)
      have hd2 : wr.cell? ⟨b2, off2 + k, none⟩ = some (.float .f32 zs[k]) := by
        rw [Below.cell HW.out (p := ⟨b2, off2 + k, none⟩) (lt_of_cell hd)]; exact hd
      have hki : ((k : Nat) : Int) < (n : Int) := by omega
      clear hc hd
      have HNX := Lib.hid (fun v hv hcv => addTo_next (v := v) HM.out k1 k2 hv hcv)
      generalize xs[k] = x at *
      generalize zs[k] = z at *
      obtain ⟨cs, tt, _, hblk, hvv⟩ := own_some HO.out
      obtain ⟨gc, gf⟩ := hblk.open
      have f0 : wr.cell? ⟨w.heap.size, k, none⟩ = some _ := (gc _).trans (hvv k _ (fvals_get kL))
      clear gc hvv hblk
      go_wp2_with (refine wpList_arith rfl _ _ _ _ _ rfl rfl .f32 _ _ rfl rfl ?_; intro v nq hcv hv; have HN2 := Lib.hid (HNX.out v hv hcv); clear hcv HNX; (have q : Below wr.heap.size wr (wr.drewN nq) := below_drewN (Below.refl _ _) _); (replace HO := Lib.hid (HO.out.later q)); (replace HW := Lib.hid (HW.out.trans (q.mono HW.out.size))); (replace f0 : (wr.drewN nq).cell? ⟨w.heap.size, k, none⟩ = some _ := f0); (replace gf : ∀ i, (wr.drewN nq).frozen? ⟨w.heap.size, i, none⟩ = false := gf); clear q hc2 hd2; generalize wr.drewN nq = w2 at *)
      have hp := own_put HO.out k (.float .f32 v) (by rw [fvals_length]; exact kL)
      rw [fvals_set] at hp
      have HP := Lib.hid hp; clear hp
      go_wp2
      go_roundw
      case rel => exact ⟨k + 1, _, by omega, by go_num, HN2.out, HP.out, HW.out.setCell (p := ⟨w.heap.size, k, none⟩) (Nat.le_refl _) _⟩
      case measure => simp [intOf]; omega
    · obtain rfl : k = n := by omega
      go_wp2
      go_ret
      have hLk : L.length = k := by rw [HM.out.1, HL.out]
      exact ⟨_, L, by rw [hLk]; rfl, HO.out, HT.out L HM.out, HW.out⟩

def addB (wd hi : Int) (wb : Bool) (xs ys e x y e2 x2 y2 : List Nat) : Bool := validB wd hi xs ys && (fitsB wd hi wb e x y && (fitsB wd hi wb e2 x2 y2 && fitsB wd hi wb (repC (addC e e2)) (repC (addC x x2)) (repC (addC y y2))))

set_option maxHeartbeats 8000000 in
set_option maxRecDepth 100000 in
theorem implAddFieldsL (wd hi : Int) (wb : Bool) (a b : Option Addr) (ca cb : Nat) (xs ys : List Nat) (a0 a1 a2 : Option Addr) (c0 c1 c2 : Nat) (e x y : List Nat) (a3 a4 a5 : Option Addr) (c3 c4 c5 : Nat) (e2 x2 y2 : List Nat) (w : World) (ha : RowV w a (fvals xs)) (hb : RowV w b (fvals ys)) (qa : ∀ z ∈ xs, z < 2 ^ 32) (qb : ∀ z ∈ ys, z < 2 ^ 32) (hx : xs.length ≤ maxLen) (hy : ys.length ≤ maxLen) (h0 : RowV w a0 (fvals e)) (h1 : RowV w a1 (fvals x)) (h2 : RowV w a2 (fvals y)) (q0 : ∀ z ∈ e, z < 2 ^ 32) (q1 : ∀ z ∈ x, z < 2 ^ 32) (q2 : ∀ z ∈ y, z < 2 ^ 32) (m0 : e.length ≤ maxLen) (m1 : x.length ≤ maxLen) (m2 : y.length ≤ maxLen) (h3 : RowV w a3 (fvals e2)) (h4 : RowV w a4 (fvals x2)) (h5 : RowV w a5 (fvals y2)) (q3 : ∀ z ∈ e2, z < 2 ^ 32) (q4 : ∀ z ∈ x2, z < 2 ^ 32) (q5 : ∀ z ∈ y2, z < 2 ^ 32) (m3 : e2.length ≤ maxLen) (m4 : x2.length ≤ maxLen) (m5 : y2.length ≤ maxLen) :
    Calls Try.prog 30 #[.agg #[.int .i64 wd, .int .i64 hi, .bool wb, .slice a xs.length ca, .slice b ys.length cb], .agg #[.slice a0 e.length c0, .slice a1 x.length c1, .slice a2 y.length c2], .agg #[.slice a3 e2.length c3, .slice a4 x2.length c4, .slice a5 y2.length c5]] w (GaveO w (addB wd hi wb xs ys e x y e2 x2 y2) (addC e e2) (addC x x2) (addC y y2)) := by
  have f1 : fieldB wd hi wb xs ys e x y = (validB wd hi xs ys && fitsB wd hi wb e x y) := rfl
  have f2 : fieldB wd hi wb xs ys e2 x2 y2 = (validB wd hi xs ys && fitsB wd hi wb e2 x2 y2) := rfl
  have hal : addB wd hi wb xs ys e x y e2 x2 y2 = (fieldB wd hi wb xs ys e x y && (fieldB wd hi wb xs ys e2 x2 y2 && fitsB wd hi wb (repC (addC e e2)) (repC (addC x x2)) (repC (addC y y2)))) := by
    rw [f1, f2]; unfold addB; cases validB wd hi xs ys <;> cases fitsB wd hi wb e x y <;> rfl
  have HSB := Lib.hid hal; clear hal f1 f2
  rcases hfv : fieldB wd hi wb xs ys e x y with _ | _
  · skip
    have HR : Hid (addB wd hi wb xs ys e x y e2 x2 y2 = false) := Lib.hid (by rw [HSB.out, hfv]; rfl)
    rw [HR.out]; have H_fb := Lib.hid hfv; clear hfv
    have X := Blk.new w #[.int .i64 wd, .int .i64 hi, .bool wb, .slice a xs.length ca, .slice b ys.length cb] 32
    have Y := Blk.new1 w (.cells #[.int .i64 wd, .int .i64 hi, .bool wb, .slice a xs.length ca, .slice b ys.length cb] 32) #[.slice a0 e.length c0, .slice a1 x.length c1, .slice a2 y.length c2] 29
    replace X := X.alloc (.cells #[.slice a0 e.length c0, .slice a1 x.length c1, .slice a2 y.length c2] 29)
    have Z := Blk.new2 w (.cells #[.int .i64 wd, .int .i64 hi, .bool wb, .slice a xs.length ca, .slice b ys.length cb] 32) (.cells #[.slice a0 e.length c0, .slice a1 x.length c1, .slice a2 y.length c2] 29) #[.slice a3 e2.length c3, .slice a4 x2.length c4, .slice a5 y2.length c5] 29
    replace X := X.alloc (.cells #[.slice a3 e2.length c3, .slice a4 x2.length c4, .slice a5 y2.length c5] 29)
    replace Y := Y.alloc (.cells #[.slice a3 e2.length c3, .slice a4 x2.length c4, .slice a5 y2.length c5] 29)
    have R := Blk.new3 w (.cells #[.int .i64 wd, .int .i64 hi, .bool wb, .slice a xs.length ca, .slice b ys.length cb] 32) (.cells #[.slice a0 e.length c0, .slice a1 x.length c1, .slice a2 y.length c2] 29) (.cells #[.slice a3 e2.length c3, .slice a4 x2.length c4, .slice a5 y2.length c5] 29) #[.slice none 0 0, .slice none 0 0, .slice none 0 0] 29
    replace X := X.alloc (.cells #[.slice none 0 0, .slice none 0 0, .slice none 0 0] 29)
    replace Y := Y.alloc (.cells #[.slice none 0 0, .slice none 0 0, .slice none 0 0] 29)
    replace Z := Z.alloc (.cells #[.slice none 0 0, .slice none 0 0, .slice none 0 0] 29)
    have HB : Hid (Below w.heap.size w ((((w.alloc (.cells #[.int .i64 wd, .int .i64 hi, .bool wb, .slice a xs.length ca, .slice b ys.length cb] 32)).alloc (.cells #[.slice a0 e.length c0, .slice a1 x.length c1, .slice a2 y.length c2] 29)).alloc (.cells #[.slice a3 e2.length c3, .slice a4 x2.length c4, .slice a5 y2.length c5] 29)).alloc (.cells #[.slice none 0 0, .slice none 0 0, .slice none 0 0] 29))) := Lib.hid (((((Below.refl w.heap.size w).alloc (by simp <;> omega) _).alloc (by simp <;> omega) _).alloc (by simp <;> omega) _).alloc (by simp <;> omega) _)
    go_enter Try.func30, Try.ntmps30
    go_wp2_with fail
    generalize ((((w.alloc (.cells #[.int .i64 wd, .int .i64 hi, .bool wb, .slice a xs.length ca, .slice b ys.length cb] 32)).alloc (.cells #[.slice a0 e.length c0, .slice a1 x.length c1, .slice a2 y.length c2] 29)).alloc (.cells #[.slice a3 e2.length c3, .slice a4 x2.length c4, .slice a5 y2.length c5] 29)).alloc (.cells #[.slice none 0 0, .slice none 0 0, .slice none 0 0] 29)) = u1 at *
    refine (implIsField _ _ _ _ _ _ _ _ _ _ _ _ _ _ _ _ _ _ _ (ha.later HB.out) (hb.later HB.out) hx hy (h0.later HB.out) (h1.later HB.out) (h2.later HB.out) m0 m1 m2).mono ?_
    rintro r u2 ⟨rfl, q⟩
    replace X := X.later q
    replace Y := Y.later q
    replace Z := Z.later q
    replace R := R.later q
    replace HB := Lib.hid (HB.out.trans (q.mono HB.out.size))
    clear q
    rw [H_fb.out]
    obtain ⟨Rc, Rf⟩ := R.open
    go_wp2
    refine bodyPost_ret (v := .tuple #[.agg #[.slice none 0 0, .slice none 0 0, .slice none 0 0], .bool false]) (by simp [results, Try.results30, go_sem, Rc]) rfl ⟨none, none, none, 0, 0, 0, [], [], [], rfl, GotField.none (((HB.out.setCell (p := ⟨w.heap.size + 1 + 1 + 1, 0, none⟩) (by first | omega | (simp <;> omega)) _).setCell (p := ⟨w.heap.size + 1 + 1 + 1, 1, none⟩) (by first | omega | (simp <;> omega)) _).setCell (p := ⟨w.heap.size + 1 + 1 + 1, 2, none⟩) (by first | omega | (simp <;> omega)) _)⟩
  rcases hfw : fieldB wd hi wb xs ys e2 x2 y2 with _ | _
  · skip
    have HR : Hid (addB wd hi wb xs ys e x y e2 x2 y2 = false) := Lib.hid (by rw [HSB.out, hfv, hfw]; rfl)
    rw [HR.out]; have H_fb := Lib.hid hfv; have H_fb2 := Lib.hid hfw; clear hfv hfw
    have X := Blk.new w #[.int .i64 wd, .int .i64 hi, .bool wb, .slice a xs.length ca, .slice b ys.length cb] 32
    have Y := Blk.new1 w (.cells #[.int .i64 wd, .int .i64 hi, .bool wb, .slice a xs.length ca, .slice b ys.length cb] 32) #[.slice a0 e.length c0, .slice a1 x.length c1, .slice a2 y.length c2] 29
    replace X := X.alloc (.cells #[.slice a0 e.length c0, .slice a1 x.length c1, .slice a2 y.length c2] 29)
    have Z := Blk.new2 w (.cells #[.int .i64 wd, .int .i64 hi, .bool wb, .slice a xs.length ca, .slice b ys.length cb] 32) (.cells #[.slice a0 e.length c0, .slice a1 x.length c1, .slice a2 y.length c2] 29) #[.slice a3 e2.length c3, .slice a4 x2.length c4, .slice a5 y2.length c5] 29
    replace X := X.alloc (.cells #[.slice a3 e2.length c3, .slice a4 x2.length c4, .slice a5 y2.length c5] 29)
    replace Y := Y.alloc (.cells #[.slice a3 e2.length c3, .slice a4 x2.length c4, .slice a5 y2.length c5] 29)
    have R := Blk.new3 w (.cells #[.int .i64 wd, .int .i64 hi, .bool wb, .slice a xs.length ca, .slice b ys.length cb] 32) (.cells #[.slice a0 e.length c0, .slice a1 x.length c1, .slice a2 y.length c2] 29) (.cells #[.slice a3 e2.length c3, .slice a4 x2.length c4, .slice a5 y2.length c5] 29) #[.slice none 0 0, .slice none 0 0, .slice none 0 0] 29
    replace X := X.alloc (.cells #[.slice none 0 0, .slice none 0 0, .slice none 0 0] 29)
    replace Y := Y.alloc (.cells #[.slice none 0 0, .slice none 0 0, .slice none 0 0] 29)
    replace Z := Z.alloc (.cells #[.slice none 0 0, .slice none 0 0, .slice none 0 0] 29)
    have HB : Hid (Below w.heap.size w ((((w.alloc (.cells #[.int .i64 wd, .int .i64 hi, .bool wb, .slice a xs.length ca, .slice b ys.length cb] 32)).alloc (.cells #[.slice a0 e.length c0, .slice a1 x.length c1, .slice a2 y.length c2] 29)).alloc (.cells #[.slice a3 e2.length c3, .slice a4 x2.length c4, .slice a5 y2.length c5] 29)).alloc (.cells #[.slice none 0 0, .slice none 0 0, .slice none 0 0] 29))) := Lib.hid (((((Below.refl w.heap.size w).alloc (by simp <;> omega) _).alloc (by simp <;> omega) _).alloc (by simp <;> omega) _).alloc (by simp <;> omega) _)
    go_enter Try.func30, Try.ntmps30
    go_wp2_with fail
    generalize ((((w.alloc (.cells #[.int .i64 wd, .int .i64 hi, .bool wb, .slice a xs.length ca, .slice b ys.length cb] 32)).alloc (.cells #[.slice a0 e.length c0, .slice a1 x.length c1, .slice a2 y.length c2] 29)).alloc (.cells #[.slice a3 e2.length c3, .slice a4 x2.length c4, .slice a5 y2.length c5] 29)).alloc (.cells #[.slice none 0 0, .slice none 0 0, .slice none 0 0] 29)) = u1 at *
    refine (implIsField _ _ _ _ _ _ _ _ _ _ _ _ _ _ _ _ _ _ _ (ha.later HB.out) (hb.later HB.out) hx hy (h0.later HB.out) (h1.later HB.out) (h2.later HB.out) m0 m1 m2).mono ?_
    rintro r u2 ⟨rfl, q⟩
    replace X := X.later q
    replace Y := Y.later q
    replace Z := Z.later q
    replace R := R.later q
    replace HB := Lib.hid (HB.out.trans (q.mono HB.out.size))
    clear q
    rw [H_fb.out]
    obtain ⟨Xc, Xf⟩ := X.open
    obtain ⟨Yc, Yf⟩ := Y.open
    obtain ⟨Zc, Zf⟩ := Z.open
    go_wp2_with fail
    refine (implIsField _ _ _ _ _ _ _ _ _ _ _ _ _ _ _ _ _ _ _ (ha.later HB.out) (hb.later HB.out) hx hy (h3.later HB.out) (h4.later HB.out) (h5.later HB.out) m3 m4 m5).mono ?_
    rintro r u3 ⟨rfl, q⟩
    clear Xc Xf
    clear Yc Yf
    clear Zc Zf
    replace X := X.later q
    replace Y := Y.later q
    replace Z := Z.later q
    replace R := R.later q
    replace HB := Lib.hid (HB.out.trans (q.mono HB.out.size))
    clear q
    rw [H_fb2.out]
    obtain ⟨Rc, Rf⟩ := R.open
    go_wp2
    refine bodyPost_ret (v := .tuple #[.agg #[.slice none 0 0, .slice none 0 0, .slice none 0 0], .bool false]) (by simp [results, Try.results30, go_sem, Rc]) rfl ⟨none, none, none, 0, 0, 0, [], [], [], rfl, GotField.none (((HB.out.setCell (p := ⟨w.heap.size + 1 + 1 + 1, 0, none⟩) (by first | omega | (simp <;> omega)) _).setCell (p := ⟨w.heap.size + 1 + 1 + 1, 1, none⟩) (by first | omega | (simp <;> omega)) _).setCell (p := ⟨w.heap.size + 1 + 1 + 1, 2, none⟩) (by first | omega | (simp <;> omega)) _)⟩
  obtain ⟨p1, _, l0, l1, l2⟩ := field_parts hfv
  obtain ⟨p2, _, l3, l4, l5⟩ := field_parts hfw
  obtain ⟨s1, s2, s3, s4, t1, t2⟩ := sides_mul (valid_sides p1)
  have n0 : e.length ≤ 256 := by omega
  have r0 : e2.length = e.length := by omega
  have N0 := Lib.hid r0; clear r0
  have n1 : x.length ≤ 256 := by omega
  have r1 : x2.length = x.length := by omega
  have N1 := Lib.hid r1; clear r1
  have n2 : y.length ≤ 256 := by omega
  have r2 : y2.length = y.length := by omega
  have N2 := Lib.hid r2; clear r2
  rcases hft : fitsB wd hi wb (repC (addC e e2)) (repC (addC x x2)) (repC (addC y y2)) with _ | _
  · skip
    have HR : Hid (addB wd hi wb xs ys e x y e2 x2 y2 = false) := Lib.hid (by rw [HSB.out, hfv, hfw, hft]; rfl)
    have HFI : Hid (∀ L0 L1 L2, Is L0 (addC e e2) → Is L1 (addC x x2) → Is L2 (addC y y2) → fieldB wd hi wb xs ys L0 L1 L2 = false) := Lib.hid (fun L0 L1 L2 i0 i1 i2 => by unfold fieldB; rw [p1, fits_is i0 i1 i2, hft]; rfl)
    rw [HR.out]; have H_fb := Lib.hid hfv; have H_fb2 := Lib.hid hfw; clear hfv hfw hft p1 p2 l0 l1 l2 l3 l4 l5 t1 t2
    have X := Blk.new w #[.int .i64 wd, .int .i64 hi, .bool wb, .slice a xs.length ca, .slice b ys.length cb] 32
    have Y := Blk.new1 w (.cells #[.int .i64 wd, .int .i64 hi, .bool wb, .slice a xs.length ca, .slice b ys.length cb] 32) #[.slice a0 e.length c0, .slice a1 x.length c1, .slice a2 y.length c2] 29
    replace X := X.alloc (.cells #[.slice a0 e.length c0, .slice a1 x.length c1, .slice a2 y.length c2] 29)
    have Z := Blk.new2 w (.cells #[.int .i64 wd, .int .i64 hi, .bool wb, .slice a xs.length ca, .slice b ys.length cb] 32) (.cells #[.slice a0 e.length c0, .slice a1 x.length c1, .slice a2 y.length c2] 29) #[.slice a3 e2.length c3, .slice a4 x2.length c4, .slice a5 y2.length c5] 29
    replace X := X.alloc (.cells #[.slice a3 e2.length c3, .slice a4 x2.length c4, .slice a5 y2.length c5] 29)
    replace Y := Y.alloc (.cells #[.slice a3 e2.length c3, .slice a4 x2.length c4, .slice a5 y2.length c5] 29)
    have R := Blk.new3 w (.cells #[.int .i64 wd, .int .i64 hi, .bool wb, .slice a xs.length ca, .slice b ys.length cb] 32) (.cells #[.slice a0 e.length c0, .slice a1 x.length c1, .slice a2 y.length c2] 29) (.cells #[.slice a3 e2.length c3, .slice a4 x2.length c4, .slice a5 y2.length c5] 29) #[.slice none 0 0, .slice none 0 0, .slice none 0 0] 29
    replace X := X.alloc (.cells #[.slice none 0 0, .slice none 0 0, .slice none 0 0] 29)
    replace Y := Y.alloc (.cells #[.slice none 0 0, .slice none 0 0, .slice none 0 0] 29)
    replace Z := Z.alloc (.cells #[.slice none 0 0, .slice none 0 0, .slice none 0 0] 29)
    have HB : Hid (Below w.heap.size w ((((w.alloc (.cells #[.int .i64 wd, .int .i64 hi, .bool wb, .slice a xs.length ca, .slice b ys.length cb] 32)).alloc (.cells #[.slice a0 e.length c0, .slice a1 x.length c1, .slice a2 y.length c2] 29)).alloc (.cells #[.slice a3 e2.length c3, .slice a4 x2.length c4, .slice a5 y2.length c5] 29)).alloc (.cells #[.slice none 0 0, .slice none 0 0, .slice none 0 0] 29))) := Lib.hid (((((Below.refl w.heap.size w).alloc (by simp <;> omega) _).alloc (by simp <;> omega) _).alloc (by simp <;> omega) _).alloc (by simp <;> omega) _)
    go_enter Try.func30, Try.ntmps30
    go_wp2_with fail
    generalize ((((w.alloc (.cells #[.int .i64 wd, .int .i64 hi, .bool wb, .slice a xs.length ca, .slice b ys.length cb] 32)).alloc (.cells #[.slice a0 e.length c0, .slice a1 x.length c1, .slice a2 y.length c2] 29)).alloc (.cells #[.slice a3 e2.length c3, .slice a4 x2.length c4, .slice a5 y2.length c5] 29)).alloc (.cells #[.slice none 0 0, .slice none 0 0, .slice none 0 0] 29)) = u1 at *
    refine (implIsField _ _ _ _ _ _ _ _ _ _ _ _ _ _ _ _ _ _ _ (ha.later HB.out) (hb.later HB.out) hx hy (h0.later HB.out) (h1.later HB.out) (h2.later HB.out) m0 m1 m2).mono ?_
    rintro r u2 ⟨rfl, q⟩
    replace X := X.later q
    replace Y := Y.later q
    replace Z := Z.later q
    replace R := R.later q
    replace HB := Lib.hid (HB.out.trans (q.mono HB.out.size))
    clear q
    rw [H_fb.out]
    obtain ⟨Xc, Xf⟩ := X.open
    obtain ⟨Yc, Yf⟩ := Y.open
    obtain ⟨Zc, Zf⟩ := Z.open
    go_wp2_with fail
    refine (implIsField _ _ _ _ _ _ _ _ _ _ _ _ _ _ _ _ _ _ _ (ha.later HB.out) (hb.later HB.out) hx hy (h3.later HB.out) (h4.later HB.out) (h5.later HB.out) m3 m4 m5).mono ?_
    rintro r u3 ⟨rfl, q⟩
    clear Xc Xf
    clear Yc Yf
    clear Zc Zf
    replace X := X.later q
    replace Y := Y.later q
    replace Z := Z.later q
    replace R := R.later q
    replace HB := Lib.hid (HB.out.trans (q.mono HB.out.size))
    clear q
    rw [H_fb2.out]
    have zR := R.lt; have b6 := HB.out; have hR : w.heap.size ≤ w.heap.size + 1 + 1 + 1 := by omega
    obtain ⟨Xc, Xf⟩ := X.open
    obtain ⟨Yc, Yf⟩ := Y.open
    obtain ⟨Zc, Zf⟩ := Z.open
    go_wp2_with fail
    clear Xc Xf
    clear Yc Yf
    clear Zc Zf
    obtain ⟨Xc, Xf⟩ := X.open
    obtain ⟨Yc, Yf⟩ := Y.open
    obtain ⟨Zc, Zf⟩ := Z.open
    clear Xc Xf
    clear Yc Yf
    clear Zc Zf
    have neX : w.heap.size ≠ w.heap.size + 1 + 1 + 1 := by omega
    have neY : w.heap.size + 1 ≠ w.heap.size + 1 + 1 + 1 := by omega
    have neZ : w.heap.size + 1 + 1 ≠ w.heap.size + 1 + 1 + 1 := by omega
    have tk0 : True := trivial
    have tk1 : True := trivial
    have tk2 : True := trivial
    have tk3 : True := trivial
    go_region_held3 (fun w' => (∀ i, w'.cell? ⟨w.heap.size, i, none⟩ = (#[.int .i64 wd, .int .i64 hi, .bool wb, .slice a xs.length ca, .slice b ys.length cb] : Array Value)[i]?) ∧ (∀ i, w'.cell? ⟨w.heap.size + 1, i, none⟩ = (#[.slice a0 e.length c0, .slice a1 x.length c1, .slice a2 y.length c2] : Array Value)[i]?) ∧ (∀ i, w'.cell? ⟨w.heap.size + 1 + 1, i, none⟩ = (#[.slice a3 e2.length c3, .slice a4 x2.length c4, .slice a5 y2.length c5] : Array Value)[i]?) ∧ u3.grownBy w' (some (w.heap.size + 1 + 1 + 1))) (first | with_reducible exact keepR3_start X Y Z | with_reducible exact keepR3_later X Y Z neX neY neZ (by assumption) (by assumption) | exact keepR3_set3 X Y Z neX neY neZ (by assumption) _ _ _)
      (first
        | (go_at_call 76; have _t := tk0; clear _t tk0; (with_reducible refine (implAddLists _ _ _ _ _ _ _ (row_heldR3a h0 b6 hR (by assumption)) (row_heldR3a h3 b6 hR (by assumption)) N0.out n0).mono ?_); rintro r u4 ⟨gg0, L0, rfl, oo0, is0, qa0⟩)
        | (go_at_call 76; have _t := tk1; clear _t tk1; (with_reducible refine (implAddLists _ _ _ _ _ _ _ (row_heldR3a h1 b6 hR (by assumption)) (row_heldR3a h4 b6 hR (by assumption)) N1.out n1).mono ?_); rintro r u5 ⟨gg1, L1, rfl, oo1, is1, qa1⟩)
        | (go_at_call 76; have _t := tk2; clear _t tk2; (with_reducible refine (implAddLists _ _ _ _ _ _ _ (row_heldR3a h2 b6 hR (by assumption)) (row_heldR3a h5 b6 hR (by assumption)) N2.out n2).mono ?_); rintro r u6 ⟨gg2, L2, rfl, oo2, is2, qa2⟩)
        | (go_at_call 75; have _t := tk3; clear _t tk3; (with_reducible refine (implIfFieldNo _ _ _ _ _ _ _ _ _ _ _ _ _ _ _ _ _ _ _ (row_heldR3a ha b6 hR (by assumption)) (row_heldR3a hb b6 hR (by assumption)) hx hy ((oo0.later qa1).later qa2).row (oo1.later qa2).row oo2.row (few_max is0) (few_max is1) (few_max is2) (HFI.out L0 L1 L2 is0 is1 is2)).mono ?_); rintro r u7 ⟨rfl, qa3⟩; obtain ⟨Rc, Rf⟩ := (R.later (below_next (below_next (below_next (below_next (below_drew u3) qa0) qa1) qa2) qa3)).open))
    go_wp2
    refine bodyPost_ret (v := .tuple #[.agg #[.slice none 0 0, .slice none 0 0, .slice none 0 0], .bool false]) (by simp [results, Try.results30, go_sem, Rc]) rfl ⟨none, none, none, 0, 0, 0, [], [], [], rfl, GotField.none ((((HB.out.trans ((below_next (below_next (below_next (below_next (below_drew u3) qa0) qa1) qa2) qa3).mono HB.out.size)).setCell (p := ⟨w.heap.size + 1 + 1 + 1, 0, none⟩) (by first | omega | (simp <;> omega)) _).setCell (p := ⟨w.heap.size + 1 + 1 + 1, 1, none⟩) (by first | omega | (simp <;> omega)) _).setCell (p := ⟨w.heap.size + 1 + 1 + 1, 2, none⟩) (by first | omega | (simp <;> omega)) _)⟩
  · skip
    have HR : Hid (addB wd hi wb xs ys e x y e2 x2 y2 = true) := Lib.hid (by rw [HSB.out, hfv, hfw, hft]; rfl)
    have HFI : Hid (∀ L0 L1 L2, Is L0 (addC e e2) → Is L1 (addC x x2) → Is L2 (addC y y2) → fieldB wd hi wb xs ys L0 L1 L2 = true) := Lib.hid (fun L0 L1 L2 i0 i1 i2 => by unfold fieldB; rw [p1, fits_is i0 i1 i2, hft]; rfl)
    rw [HR.out]; have H_fb := Lib.hid hfv; have H_fb2 := Lib.hid hfw; clear hfv hfw hft p1 p2 l0 l1 l2 l3 l4 l5 t1 t2
    have X := Blk.new w #[.int .i64 wd, .int .i64 hi, .bool wb, .slice a xs.length ca, .slice b ys.length cb] 32
    have Y := Blk.new1 w (.cells #[.int .i64 wd, .int .i64 hi, .bool wb, .slice a xs.length ca, .slice b ys.length cb] 32) #[.slice a0 e.length c0, .slice a1 x.length c1, .slice a2 y.length c2] 29
    replace X := X.alloc (.cells #[.slice a0 e.length c0, .slice a1 x.length c1, .slice a2 y.length c2] 29)
    have Z := Blk.new2 w (.cells #[.int .i64 wd, .int .i64 hi, .bool wb, .slice a xs.length ca, .slice b ys.length cb] 32) (.cells #[.slice a0 e.length c0, .slice a1 x.length c1, .slice a2 y.length c2] 29) #[.slice a3 e2.length c3, .slice a4 x2.length c4, .slice a5 y2.length c5] 29
    replace X := X.alloc (.cells #[.slice a3 e2.length c3, .slice a4 x2.length c4, .slice a5 y2.length c5] 29)
    replace Y := Y.alloc (.cells #[.slice a3 e2.length c3, .slice a4 x2.length c4, .slice a5 y2.length c5] 29)
    have R := Blk.new3 w (.cells #[.int .i64 wd, .int .i64 hi, .bool wb, .slice a xs.length ca, .slice b ys.length cb] 32) (.cells #[.slice a0 e.length c0, .slice a1 x.length c1, .slice a2 y.length c2] 29) (.cells #[.slice a3 e2.length c3, .slice a4 x2.length c4, .slice a5 y2.length c5] 29) #[.slice none 0 0, .slice none 0 0, .slice none 0 0] 29
    replace X := X.alloc (.cells #[.slice none 0 0, .slice none 0 0, .slice none 0 0] 29)
    replace Y := Y.alloc (.cells #[.slice none 0 0, .slice none 0 0, .slice none 0 0] 29)
    replace Z := Z.alloc (.cells #[.slice none 0 0, .slice none 0 0, .slice none 0 0] 29)
    have HB : Hid (Below w.heap.size w ((((w.alloc (.cells #[.int .i64 wd, .int .i64 hi, .bool wb, .slice a xs.length ca, .slice b ys.length cb] 32)).alloc (.cells #[.slice a0 e.length c0, .slice a1 x.length c1, .slice a2 y.length c2] 29)).alloc (.cells #[.slice a3 e2.length c3, .slice a4 x2.length c4, .slice a5 y2.length c5] 29)).alloc (.cells #[.slice none 0 0, .slice none 0 0, .slice none 0 0] 29))) := Lib.hid (((((Below.refl w.heap.size w).alloc (by simp <;> omega) _).alloc (by simp <;> omega) _).alloc (by simp <;> omega) _).alloc (by simp <;> omega) _)
    go_enter Try.func30, Try.ntmps30
    go_wp2_with fail
    generalize ((((w.alloc (.cells #[.int .i64 wd, .int .i64 hi, .bool wb, .slice a xs.length ca, .slice b ys.length cb] 32)).alloc (.cells #[.slice a0 e.length c0, .slice a1 x.length c1, .slice a2 y.length c2] 29)).alloc (.cells #[.slice a3 e2.length c3, .slice a4 x2.length c4, .slice a5 y2.length c5] 29)).alloc (.cells #[.slice none 0 0, .slice none 0 0, .slice none 0 0] 29)) = u1 at *
    refine (implIsField _ _ _ _ _ _ _ _ _ _ _ _ _ _ _ _ _ _ _ (ha.later HB.out) (hb.later HB.out) hx hy (h0.later HB.out) (h1.later HB.out) (h2.later HB.out) m0 m1 m2).mono ?_
    rintro r u2 ⟨rfl, q⟩
    replace X := X.later q
    replace Y := Y.later q
    replace Z := Z.later q
    replace R := R.later q
    replace HB := Lib.hid (HB.out.trans (q.mono HB.out.size))
    clear q
    rw [H_fb.out]
    obtain ⟨Xc, Xf⟩ := X.open
    obtain ⟨Yc, Yf⟩ := Y.open
    obtain ⟨Zc, Zf⟩ := Z.open
    go_wp2_with fail
    refine (implIsField _ _ _ _ _ _ _ _ _ _ _ _ _ _ _ _ _ _ _ (ha.later HB.out) (hb.later HB.out) hx hy (h3.later HB.out) (h4.later HB.out) (h5.later HB.out) m3 m4 m5).mono ?_
    rintro r u3 ⟨rfl, q⟩
    clear Xc Xf
    clear Yc Yf
    clear Zc Zf
    replace X := X.later q
    replace Y := Y.later q
    replace Z := Z.later q
    replace R := R.later q
    replace HB := Lib.hid (HB.out.trans (q.mono HB.out.size))
    clear q
    rw [H_fb2.out]
    have zR := R.lt; have b6 := HB.out; have hR : w.heap.size ≤ w.heap.size + 1 + 1 + 1 := by omega
    obtain ⟨Xc, Xf⟩ := X.open
    obtain ⟨Yc, Yf⟩ := Y.open
    obtain ⟨Zc, Zf⟩ := Z.open
    go_wp2_with fail
    clear Xc Xf
    clear Yc Yf
    clear Zc Zf
    obtain ⟨Xc, Xf⟩ := X.open
    obtain ⟨Yc, Yf⟩ := Y.open
    obtain ⟨Zc, Zf⟩ := Z.open
    clear Xc Xf
    clear Yc Yf
    clear Zc Zf
    have neX : w.heap.size ≠ w.heap.size + 1 + 1 + 1 := by omega
    have neY : w.heap.size + 1 ≠ w.heap.size + 1 + 1 + 1 := by omega
    have neZ : w.heap.size + 1 + 1 ≠ w.heap.size + 1 + 1 + 1 := by omega
    have tk0 : True := trivial
    have tk1 : True := trivial
    have tk2 : True := trivial
    have tk3 : True := trivial
    go_region_held3 (fun w' => (∀ i, w'.cell? ⟨w.heap.size, i, none⟩ = (#[.int .i64 wd, .int .i64 hi, .bool wb, .slice a xs.length ca, .slice b ys.length cb] : Array Value)[i]?) ∧ (∀ i, w'.cell? ⟨w.heap.size + 1, i, none⟩ = (#[.slice a0 e.length c0, .slice a1 x.length c1, .slice a2 y.length c2] : Array Value)[i]?) ∧ (∀ i, w'.cell? ⟨w.heap.size + 1 + 1, i, none⟩ = (#[.slice a3 e2.length c3, .slice a4 x2.length c4, .slice a5 y2.length c5] : Array Value)[i]?) ∧ u3.grownBy w' (some (w.heap.size + 1 + 1 + 1))) (first | with_reducible exact keepR3_start X Y Z | with_reducible exact keepR3_later X Y Z neX neY neZ (by assumption) (by assumption) | exact keepR3_set3 X Y Z neX neY neZ (by assumption) _ _ _)
      (first
        | (go_at_call 76; have _t := tk0; clear _t tk0; (with_reducible refine (implAddLists _ _ _ _ _ _ _ (row_heldR3a h0 b6 hR (by assumption)) (row_heldR3a h3 b6 hR (by assumption)) N0.out n0).mono ?_); rintro r u4 ⟨gg0, L0, rfl, oo0, is0, qa0⟩)
        | (go_at_call 76; have _t := tk1; clear _t tk1; (with_reducible refine (implAddLists _ _ _ _ _ _ _ (row_heldR3a h1 b6 hR (by assumption)) (row_heldR3a h4 b6 hR (by assumption)) N1.out n1).mono ?_); rintro r u5 ⟨gg1, L1, rfl, oo1, is1, qa1⟩)
        | (go_at_call 76; have _t := tk2; clear _t tk2; (with_reducible refine (implAddLists _ _ _ _ _ _ _ (row_heldR3a h2 b6 hR (by assumption)) (row_heldR3a h5 b6 hR (by assumption)) N2.out n2).mono ?_); rintro r u6 ⟨gg2, L2, rfl, oo2, is2, qa2⟩)
        | (go_at_call 75; have _t := tk3; clear _t tk3; (with_reducible refine (implIfFieldYes _ _ _ _ _ _ _ _ _ _ _ _ _ _ _ _ _ _ _ (row_heldR3a ha b6 hR (by assumption)) (row_heldR3a hb b6 hR (by assumption)) hx hy ((oo0.later qa1).later qa2).row (oo1.later qa2).row oo2.row (few_max is0) (few_max is1) (few_max is2) (HFI.out L0 L1 L2 is0 is1 is2)).mono ?_); rintro r u7 ⟨rfl, qa3⟩; obtain ⟨Rc, Rf⟩ := (R.later (below_next (below_next (below_next (below_next (below_drew u3) qa0) qa1) qa2) qa3)).open))
    go_wp2
    have z0 := HB.out.size
    have y1 : u3.heap.size ≤ u4.heap.size := qa0.size; have y2 : u4.heap.size ≤ u5.heap.size := qa1.size; have y3 : u5.heap.size ≤ u6.heap.size := qa2.size
    have g1 := (oo0.span _ rfl).2; have g2 := (oo1.span _ rfl).2; have g3 := (oo2.span _ rfl).2; dsimp only at g1 g2 g3; have h1 : u3.heap.size ≤ gg0 := oo0.bound gg0 rfl; have h2 : u4.heap.size ≤ gg1 := oo1.bound gg1 rfl; have h3 : u5.heap.size ≤ gg2 := oo2.bound gg2 rfl
    have e0 : u3.drew.heap.size = u3.heap.size := rfl
    refine bodyPost_ret (v := .tuple #[.agg #[.slice (some ⟨gg0, 0, none⟩) L0.length L0.length, .slice (some ⟨gg1, 0, none⟩) L1.length L1.length, .slice (some ⟨gg2, 0, none⟩) L2.length L2.length], .bool true]) (by simp [results, Try.results30, go_sem, Rc]) rfl ⟨some ⟨gg0, 0, none⟩, some ⟨gg1, 0, none⟩, some ⟨gg2, 0, none⟩, L0.length, L1.length, L2.length, L0, L1, L2, rfl, ⟨(((((((oo0.later qa1).later qa2).later qa3).lower (show w.heap.size ≤ _ by omega)).set (p := ⟨w.heap.size + 1 + 1 + 1, 0, none⟩) (ne_block (h := w.heap.size + 1 + 1 + 1) (by omega)) _).set (p := ⟨w.heap.size + 1 + 1 + 1, 1, none⟩) (ne_block (h := w.heap.size + 1 + 1 + 1) (by omega)) _).set (p := ⟨w.heap.size + 1 + 1 + 1, 2, none⟩) (ne_block (h := w.heap.size + 1 + 1 + 1) (by omega)) _), ((((((oo1.later qa2).later qa3).lower (show w.heap.size ≤ _ by omega)).set (p := ⟨w.heap.size + 1 + 1 + 1, 0, none⟩) (ne_block (h := w.heap.size + 1 + 1 + 1) (by omega)) _).set (p := ⟨w.heap.size + 1 + 1 + 1, 1, none⟩) (ne_block (h := w.heap.size + 1 + 1 + 1) (by omega)) _).set (p := ⟨w.heap.size + 1 + 1 + 1, 2, none⟩) (ne_block (h := w.heap.size + 1 + 1 + 1) (by omega)) _), (((((oo2.later qa3).lower (show w.heap.size ≤ _ by omega)).set (p := ⟨w.heap.size + 1 + 1 + 1, 0, none⟩) (ne_block (h := w.heap.size + 1 + 1 + 1) (by omega)) _).set (p := ⟨w.heap.size + 1 + 1 + 1, 1, none⟩) (ne_block (h := w.heap.size + 1 + 1 + 1) (by omega)) _).set (p := ⟨w.heap.size + 1 + 1 + 1, 2, none⟩) (ne_block (h := w.heap.size + 1 + 1 + 1) (by omega)) _), apart_ne (by omega), apart_ne (by omega), apart_ne (by omega), is0, is1, is2, ((((HB.out.trans ((below_next (below_next (below_next (below_next (below_drew u3) qa0) qa1) qa2) qa3).mono HB.out.size)).setCell (p := ⟨w.heap.size + 1 + 1 + 1, 0, none⟩) (by first | omega | (simp <;> omega)) _).setCell (p := ⟨w.heap.size + 1 + 1 + 1, 1, none⟩) (by first | omega | (simp <;> omega)) _).setCell (p := ⟨w.heap.size + 1 + 1 + 1, 2, none⟩) (by first | omega | (simp <;> omega)) _)⟩⟩

/-- a list behind k sums, the rest as it was -/
def AddAt (xs zs : List Nat) (k : Nat) (L : List Nat) : Prop := AddTo xs zs k L ∧ ∀ j, k ≤ j → L[j]? = xs[j]?

theorem addAt_start {xs : List Nat} (zs : List Nat) (h : ∀ z ∈ xs, z < 2 ^ 32) : AddAt xs zs 0 xs := ⟨⟨rfl, h, fun j _ _ _ hj => by omega⟩, fun j _ => rfl⟩
theorem addAt_next {xs zs : List Nat} {k : Nat} {L : List Nat} {v : Nat} (h : AddAt xs zs k L) (hk : k < L.length) (hz : k < zs.length) (hv : v < 2 ^ 32) (hc : canon .f32 v = fop .add .f32 (canon .f32 L[k]) (canon .f32 zs[k])) : AddAt xs zs (k + 1) (L.set k v) := by
  have hx : k < xs.length := by rw [← h.1.1]; exact hk
  have e : L[k] = xs[k] := by
    have := h.2 k (Nat.le_refl _)
    rw [List.getElem?_eq_getElem hk, List.getElem?_eq_getElem hx] at this
    injection this
  rw [e] at hc
  refine ⟨addTo_next h.1 hx hz hv hc, fun j hj => ?_⟩
  rw [List.getElem?_set, if_neg (by omega)]
  exact h.2 j (by omega)

theorem row_cell {w w' : World} {b o : Nat} {zs : List Nat} {k : Nat} (h : RowV w (some ⟨b, o, none⟩) (fvals zs)) (q : Below w.heap.size w w') (hk : k < zs.length) : w'.cell? ⟨b, o + k, none⟩ = some (.float .f32 zs[k]) := by
  obtain ⟨b1, o1, e1, hc⟩ := h k _ (fvals_get hk)
  injection e1 with e1; injection e1 with e1 e2 e3
  subst e1; subst e2
  rw [Below.cell q (p := ⟨b, o + k, none⟩) (lt_of_cell hc)]; exact hc

theorem row_cell_old {w w' : World} {b o : Nat} {zs : List Nat} {k : Nat} (h : RowV w (some ⟨b, o, none⟩) (fvals zs)) (hk : k < zs.length) : b < w.heap.size := by
  obtain ⟨b1, o1, e1, hc⟩ := h k _ (fvals_get hk)
  injection e1 with e1; injection e1 with e1 e2 e3
  subst e1
  exact lt_of_cell hc

set_option maxHeartbeats 16000000 in
set_option maxRecDepth 100000 in
theorem specSum (gy gz n : Nat) (b0 b1 b2 bo0 bo1 bo2 c0 c1 c2 p0 p1 p2 po0 po1 po2 d0 d1 d2 : Nat) (e x y e2 x2 y2 : List Nat) (w : World) (Y : Blk w gy #[.slice (some ⟨b0, bo0, none⟩) e.length c0, .slice (some ⟨b1, bo1, none⟩) x.length c1, .slice (some ⟨b2, bo2, none⟩) y.length c2] 29) (Z : Blk w gz #[.slice (some ⟨p0, po0, none⟩) n d0, .slice (some ⟨p1, po1, none⟩) n d1, .slice (some ⟨p2, po2, none⟩) n d2] 29)
    (h0 : RowV w (some ⟨b0, bo0, none⟩) (fvals e)) (h1 : RowV w (some ⟨b1, bo1, none⟩) (fvals x)) (h2 : RowV w (some ⟨b2, bo2, none⟩) (fvals y)) (h3 : RowV w (some ⟨p0, po0, none⟩) (fvals e2)) (h4 : RowV w (some ⟨p1, po1, none⟩) (fvals x2)) (h5 : RowV w (some ⟨p2, po2, none⟩) (fvals y2)) (q0 : ∀ z ∈ e, z < 2 ^ 32) (q1 : ∀ z ∈ x, z < 2 ^ 32) (q2 : ∀ z ∈ y, z < 2 ^ 32) (E0 : e.length = n) (E1 : x.length = n) (E2 : y.length = n) (E3 : e2.length = n) (E4 : x2.length = n) (E5 : y2.length = n) (n9 : 0 < n) (n256 : n ≤ 256) :
    Calls Try.prog 74 #[.pointer (some ⟨gy, 0, none⟩), .pointer (some ⟨gz, 0, none⟩)] w fun r w' => ∃ g0 g1 g2 k0 k1 k2 L0 L1 L2, r = .returned (.agg #[.slice (some ⟨g0, 0, none⟩) n k0, .slice (some ⟨g1, 0, none⟩) n k1, .slice (some ⟨g2, 0, none⟩) n k2]) ∧ OwnV w' w.heap.size (some ⟨g0, 0, none⟩) (fvals L0) ∧ OwnV w' w.heap.size (some ⟨g1, 0, none⟩) (fvals L1) ∧ OwnV w' w.heap.size (some ⟨g2, 0, none⟩) (fvals L2) ∧ Is L0 (addC e e2) ∧ Is L1 (addC x x2) ∧ Is L2 (addC y y2) ∧ g0 < g1 ∧ g1 < g2 ∧ Below w.heap.size w w' := by
  have HA0 : Hid (∀ L, AddTo e e2 n L → Is L (addC e e2)) := Lib.hid (fun L h => addTo_all h (by omega) (by omega) (by omega))
  have zl0 : p0 < w.heap.size := row_cell_old (w' := w) (k := 0) h3 (by omega)
  have HA1 : Hid (∀ L, AddTo x x2 n L → Is L (addC x x2)) := Lib.hid (fun L h => addTo_all h (by omega) (by omega) (by omega))
  have zl1 : p1 < w.heap.size := row_cell_old (w' := w) (k := 0) h4 (by omega)
  have HA2 : Hid (∀ L, AddTo y y2 n L → Is L (addC y y2)) := Lib.hid (fun L h => addTo_all h (by omega) (by omega) (by omega))
  have zl2 : p2 < w.heap.size := row_cell_old (w' := w) (k := 0) h5 (by omega)
  have HE0 := Lib.hid E0; clear E0
  have HE1 := Lib.hid E1; clear E1
  have HE2 := Lib.hid E2; clear E2
  have HE3 := Lib.hid E3; clear E3
  have HE4 := Lib.hid E4; clear E4
  have HE5 := Lib.hid E5; clear E5
  have HH3 := Lib.hid h3; clear h3
  have HH4 := Lib.hid h4; clear h4
  have HH5 := Lib.hid h5; clear h5
  have zlt := Z.lt; have ylt := Y.lt
  have R := Blk.new w #[.slice none 0 0, .slice none 0 0, .slice none 0 0] 29
  have HB : Hid (Below w.heap.size w (w.alloc (.cells #[.slice none 0 0, .slice none 0 0, .slice none 0 0] 29))) := Lib.hid ((Below.refl w.heap.size w).alloc (by simp <;> omega) _)
  go_enter Try.func74, Try.ntmps74
  go_wp2_with fail
  generalize (w.alloc (.cells #[.slice none 0 0, .slice none 0 0, .slice none 0 0] 29)) = u1 at *
  have zR := R.lt; have zB := HB.out.size
  refine (specOwn gy _ _ _ _ _ _ _ _ _ n _ _ _ _ (Y.later HB.out) (h0.later HB.out) (h1.later HB.out) (h2.later HB.out) HE0.out HE1.out HE2.out n9 n256).mono ?_
  rintro r u2 ⟨g0, g1, g2, k0, k1, k2, rfl, w0, w1, w2, g01, g12, q⟩
  replace R := R.later q
  replace HB := Lib.hid (HB.out.trans (q.mono HB.out.size))
  clear q
  have zg0 := (w0.span _ rfl); have zg1 := (w1.span _ rfl); have zg2 := (w2.span _ rfl); dsimp only at zg0 zg1 zg2
  have hg8 : ∃ g8, g8 = u2.heap.size := ⟨_, rfl⟩
  obtain ⟨g8, hg8⟩ := hg8
  have B8 := Blk.new u2 #[.slice (some ⟨g0, 0, none⟩) n k0, .slice (some ⟨g1, 0, none⟩) n k1, .slice (some ⟨g2, 0, none⟩) n k2] 29
  rw [← hg8] at B8
  have q := below_new u2 (.cells #[.slice (some ⟨g0, 0, none⟩) n k0, .slice (some ⟨g1, 0, none⟩) n k1, .slice (some ⟨g2, 0, none⟩) n k2] 29)
  replace R := R.later q
  replace HB := Lib.hid (HB.out.trans (q.mono HB.out.size))
  clear q
  have O0 := Lib.hid ((w0.later (below_new u2 (.cells #[.slice (some ⟨g0, 0, none⟩) n k0, .slice (some ⟨g1, 0, none⟩) n k1, .slice (some ⟨g2, 0, none⟩) n k2] 29))).lower (C := w.heap.size) (by omega)); clear w0
  have O1 := Lib.hid ((w1.later (below_new u2 (.cells #[.slice (some ⟨g0, 0, none⟩) n k0, .slice (some ⟨g1, 0, none⟩) n k1, .slice (some ⟨g2, 0, none⟩) n k2] 29))).lower (C := w.heap.size) (by omega)); clear w1
  have O2 := Lib.hid ((w2.later (below_new u2 (.cells #[.slice (some ⟨g0, 0, none⟩) n k0, .slice (some ⟨g1, 0, none⟩) n k1, .slice (some ⟨g2, 0, none⟩) n k2] 29))).lower (C := w.heap.size) (by omega)); clear w2
  go_upto_region 2 with (fail)
  rw [← hg8]
  generalize u2.alloc (.cells #[.slice (some ⟨g0, 0, none⟩) n k0, .slice (some ⟨g1, 0, none⟩) n k1, .slice (some ⟨g2, 0, none⟩) n k2] 29) = u3 at *
  have z8 := B8.lt
  have zz8 : g0 < g8 ∧ g1 < g8 ∧ g2 < g8 := by omega
  obtain ⟨zz80, zz81, zz82⟩ := zz8; have zw8 : w.heap.size < g8 := (by omega); clear hg8
  have zz9 : w.heap.size ≤ g0 ∧ w.heap.size ≤ g1 ∧ w.heap.size ≤ g2 ∧ w.heap.size ≠ g0 ∧ w.heap.size ≠ g1 ∧ w.heap.size ≠ g2 := by omega
  obtain ⟨zy0, zy1, zy2, zx0, zx1, zx2⟩ := zz9
  go_wp2
  go_loopw [6] (fun iv wr => ∃ (k : Nat) (L0 L1 L2 : List Nat), k ≤ n ∧ iv = .int .i64 k ∧ AddAt e e2 k L0 ∧ AddAt x x2 k L1 ∧ AddAt y y2 k L2 ∧ OwnV wr w.heap.size (some ⟨g0, 0, none⟩) (fvals L0) ∧ OwnV wr w.heap.size (some ⟨g1, 0, none⟩) (fvals L1) ∧ OwnV wr w.heap.size (some ⟨g2, 0, none⟩) (fvals L2) ∧ Blk wr g8 #[.slice (some ⟨g0, 0, none⟩) n k0, .slice (some ⟨g1, 0, none⟩) n k1, .slice (some ⟨g2, 0, none⟩) n k2] 29 ∧ Blk wr w.heap.size #[.slice none 0 0, .slice none 0 0, .slice none 0 0] 29 ∧ Below w.heap.size w wr ∧ u3.heap.size ≤ wr.heap.size) (fun iv _ => n - (intOf iv).toNat)
  case atStart => exact ⟨0, e, x, y, Nat.zero_le _, rfl, addAt_start _ q0, addAt_start _ q1, addAt_start _ q2, O0.out, O1.out, O2.out, B8, R, HB.out, Nat.le_refl _⟩
  case round =>
    clear O0 O1 O2 B8 R HB
    obtain ⟨k, L0, L1, L2, hk, rfl, hM0, hM1, hM2, hO0, hO1, hO2, B8, R, hB, hsz⟩ := hrel
    have O0 := Lib.hid hO0; have O1 := Lib.hid hO1; have O2 := Lib.hid hO2; have HB := Lib.hid hB; have M0 := Lib.hid hM0; have M1 := Lib.hid hM1; have M2 := Lib.hid hM2
    clear hO0 hO1 hO2 hB hM0 hM1 hM2
    by_cases hlt : k < n
    · skip
      have kL0 : k < L0.length := by rw [M0.out.1.1]; have := HE0.out; omega
      have kZ0 : k < e2.length := by have := HE3.out; omega
      have kL1 : k < L1.length := by rw [M1.out.1.1]; have := HE1.out; omega
      have kZ1 : k < x2.length := by have := HE4.out; omega
      have kL2 : k < L2.length := by rw [M2.out.1.1]; have := HE2.out; omega
      have kZ2 : k < y2.length := by have := HE5.out; omega
      have hki : ((k : Nat) : Int) < (n : Int) := by omega
      have hk0 : (0 : Int) ≤ (k : Int) := by omega
      have NX0 := Lib.hid (fun v hv hc => addAt_next (v := v) M0.out kL0 kZ0 hv hc)
      have NX1 := Lib.hid (fun v hv hc => addAt_next (v := v) M1.out kL1 kZ1 hv hc)
      have NX2 := Lib.hid (fun v hv hc => addAt_next (v := v) M2.out kL2 kZ2 hv hc)
      obtain ⟨b8c, b8f⟩ := B8.open
      go_upto_region 5 with (fail)
      clear b8c b8f
      obtain ⟨cs, tt, _, hblk, hvv⟩ := own_some O0.out
      obtain ⟨gc, gf⟩ := hblk.open
      have cd : wr.drew.cell? ⟨g0, k, none⟩ = some _ := (gc _).trans (hvv k _ (fvals_get kL0))
      have cf : wr.drew.frozen? ⟨g0, k, none⟩ = false := gf _
      have B8d : Blk wr.drew g8 _ _ := B8
      have Od0 : OwnV wr.drew w.heap.size (some ⟨g0, 0, none⟩) (fvals L0) := O0.out
      have Od1 : OwnV wr.drew w.heap.size (some ⟨g1, 0, none⟩) (fvals L1) := O1.out
      have Od2 : OwnV wr.drew w.heap.size (some ⟨g2, 0, none⟩) (fvals L2) := O2.out
      have HBd : Hid (Below w.heap.size w wr.drew) := Lib.hid HB.out.drew
      have zy := row_cell HH3.out HBd.out kZ0
      replace R : Blk wr.drew _ _ _ := R; replace hsz : _ ≤ wr.drew.heap.size := hsz
      clear gc hvv hblk gf O0 O1 O2 HB B8
      generalize hyy : e2[k] = yy at *
      refine wp_region_held_drew (S := (fun w' : World => (∀ i, w'.cell? ⟨g8, i, none⟩ = (#[.slice (some ⟨g0, 0, none⟩) n k0, .slice (some ⟨g1, 0, none⟩) n k1, .slice (some ⟨g2, 0, none⟩) n k2] : Array Value)[i]?) ∧ (∀ i, w'.cell? ⟨gz, i, none⟩ = (#[.slice (some ⟨p0, po0, none⟩) n d0, .slice (some ⟨p1, po1, none⟩) n d1, .slice (some ⟨p2, po2, none⟩) n d2] : Array Value)[i]?) ∧ w'.cell? ⟨p0, po0 + k, none⟩ = some (.float .f32 yy))) (by kernel_rfl) ⟨B8d.open.1, (Z.later HBd.out).open.1, zy⟩ (fun hH => ?_)
      clear zy
      generalize wr.drew = N0a at *
      generalize hzz : L0[k] = zz at *
      refine wpAnyH_take (i := 0) (v := ?_) rfl (by kernel_rfl) (by kernel_rfl) (by kernel_rfl) (fun _ _ _ h => h) (Or.inl ⟨by rfl, ?_⟩) hH ?_
      rotate_left
      · intro w9 hSw; (try dsimp only at hSw); obtain ⟨hS1, hS2, hS3⟩ := hSw; go_simp; try with_reducible rfl
      try simp only [Act.put, List.getElem_toArray, List.getElem_cons_succ, List.getElem_cons_zero, List.setIfInBounds_toArray, List.set_cons_zero, List.set_cons_succ]
      refine wpAnyH_take (i := 1) (v := ?_) rfl (by kernel_rfl) (by kernel_rfl) (by kernel_rfl) (fun _ _ _ h => h) (Or.inl ⟨by rfl, ?_⟩) hH ?_
      rotate_left
      · intro w9 hSw; (try dsimp only at hSw); obtain ⟨hS1, hS2, hS3⟩ := hSw; go_simp; try with_reducible rfl
      try simp only [Act.put, List.getElem_toArray, List.getElem_cons_succ, List.getElem_cons_zero, List.setIfInBounds_toArray, List.set_cons_zero, List.set_cons_succ]
      refine wpAnyH_take (i := 2) (v := ?_) rfl (by kernel_rfl) (by kernel_rfl) (by kernel_rfl) (fun _ _ _ h => h) (Or.inl ⟨by rfl, ?_⟩) hH ?_
      rotate_left
      · intro w9 hSw; (try dsimp only at hSw); obtain ⟨hS1, hS2, hS3⟩ := hSw; go_simp; try with_reducible rfl
      try simp only [Act.put, List.getElem_toArray, List.getElem_cons_succ, List.getElem_cons_zero, List.setIfInBounds_toArray, List.set_cons_zero, List.set_cons_succ]
      refine wpAnyH_take (i := 3) (v := ?_) rfl (by kernel_rfl) (by kernel_rfl) (by kernel_rfl) (fun _ _ _ h => h) (Or.inl ⟨by rfl, ?_⟩) hH ?_
      rotate_left
      · intro w9 hSw; (try dsimp only at hSw); obtain ⟨hS1, hS2, hS3⟩ := hSw; go_simp; try with_reducible rfl
      try simp only [Act.put, List.getElem_toArray, List.getElem_cons_succ, List.getElem_cons_zero, List.setIfInBounds_toArray, List.set_cons_zero, List.set_cons_succ]
      refine wpAnyH_take (i := 4) (v := ?_) rfl (by kernel_rfl) (by kernel_rfl) (by kernel_rfl) (fun _ _ _ h => h) (Or.inl ⟨by rfl, ?_⟩) hH ?_
      rotate_left
      · intro w9 hSw; (try dsimp only at hSw); obtain ⟨hS1, hS2, hS3⟩ := hSw; go_simp; try with_reducible rfl
      try simp only [Act.put, List.getElem_toArray, List.getElem_cons_succ, List.getElem_cons_zero, List.setIfInBounds_toArray, List.set_cons_zero, List.set_cons_succ]
      refine wpAnyH_take (i := 5) (v := ?_) rfl (by kernel_rfl) (by kernel_rfl) (by kernel_rfl) (fun _ _ _ h => h) (Or.inl ⟨by rfl, ?_⟩) hH ?_
      rotate_left
      · intro w9 hSw; (try dsimp only at hSw); obtain ⟨hS1, hS2, hS3⟩ := hSw; go_simp; try with_reducible rfl
      try simp only [Act.put, List.getElem_toArray, List.getElem_cons_succ, List.getElem_cons_zero, List.setIfInBounds_toArray, List.set_cons_zero, List.set_cons_succ]
      refine wpAnyH_take (i := 6) (v := ?_) rfl (by kernel_rfl) (by kernel_rfl) (by kernel_rfl) (fun _ _ _ h => h) (Or.inl ⟨by rfl, ?_⟩) hH ?_
      rotate_left
      · intro w9 hSw; (try dsimp only at hSw); obtain ⟨hS1, hS2, hS3⟩ := hSw; go_simp; try with_reducible rfl
      try simp only [Act.put, List.getElem_toArray, List.getElem_cons_succ, List.getElem_cons_zero, List.setIfInBounds_toArray, List.set_cons_zero, List.set_cons_succ]
      refine wpAnyH_take (i := 8) (v := ?_) rfl (by kernel_rfl) (by kernel_rfl) (by kernel_rfl) (fun _ _ _ h => h) (Or.inl ⟨by rfl, ?_⟩) hH ?_
      rotate_left
      · intro w9 hSw; (try dsimp only at hSw); obtain ⟨hS1, hS2, hS3⟩ := hSw; go_simp; try with_reducible rfl
      try simp only [Act.put, List.getElem_toArray, List.getElem_cons_succ, List.getElem_cons_zero, List.setIfInBounds_toArray, List.set_cons_zero, List.set_cons_succ]
      refine wpAnyH_take (i := 9) (v := ?_) rfl (by kernel_rfl) (by kernel_rfl) (by kernel_rfl) (fun _ _ _ h => h) (Or.inl ⟨by rfl, ?_⟩) hH ?_
      rotate_left
      · intro w9 hSw; (try dsimp only at hSw); obtain ⟨hS1, hS2, hS3⟩ := hSw; go_simp; try with_reducible rfl
      try simp only [Act.put, List.getElem_toArray, List.getElem_cons_succ, List.getElem_cons_zero, List.setIfInBounds_toArray, List.set_cons_zero, List.set_cons_succ]
      refine wpAnyH_take (i := 10) (v := ?_) rfl (by kernel_rfl) (by kernel_rfl) (by kernel_rfl) (fun _ _ _ h => h) (Or.inl ⟨by rfl, ?_⟩) hH ?_
      rotate_left
      · intro w9 hSw; (try dsimp only at hSw); obtain ⟨hS1, hS2, hS3⟩ := hSw; go_simp; try with_reducible rfl
      try simp only [Act.put, List.getElem_toArray, List.getElem_cons_succ, List.getElem_cons_zero, List.setIfInBounds_toArray, List.set_cons_zero, List.set_cons_succ]
      refine wpAnyH_take (i := 11) (v := ?_) rfl (by kernel_rfl) (by kernel_rfl) (by kernel_rfl) (fun _ _ _ h => h) (Or.inl ⟨by rfl, ?_⟩) hH ?_
      rotate_left
      · intro w9 hSw; (try dsimp only at hSw); obtain ⟨hS1, hS2, hS3⟩ := hSw; go_simp; try with_reducible rfl
      try simp only [Act.put, List.getElem_toArray, List.getElem_cons_succ, List.getElem_cons_zero, List.setIfInBounds_toArray, List.set_cons_zero, List.set_cons_succ]
      refine wpAnyH_take (i := 12) (v := ?_) rfl (by kernel_rfl) (by kernel_rfl) (by kernel_rfl) (fun _ _ _ h => h) (Or.inl ⟨by rfl, ?_⟩) hH ?_
      rotate_left
      · intro w9 hSw; (try dsimp only at hSw); obtain ⟨hS1, hS2, hS3⟩ := hSw; go_simp; try with_reducible rfl
      try simp only [Act.put, List.getElem_toArray, List.getElem_cons_succ, List.getElem_cons_zero, List.setIfInBounds_toArray, List.set_cons_zero, List.set_cons_succ]
      refine wpAnyH_take (i := 13) (v := ?_) rfl (by kernel_rfl) (by kernel_rfl) (by kernel_rfl) (fun _ _ _ h => h) (Or.inl ⟨by rfl, ?_⟩) hH ?_
      rotate_left
      · intro w9 hSw; (try dsimp only at hSw); obtain ⟨hS1, hS2, hS3⟩ := hSw; go_simp; try with_reducible rfl
      try simp only [Act.put, List.getElem_toArray, List.getElem_cons_succ, List.getElem_cons_zero, List.setIfInBounds_toArray, List.set_cons_zero, List.set_cons_succ]
      refine wpAnyH_take (i := 14) (v := ?_) rfl (by kernel_rfl) (by kernel_rfl) (by kernel_rfl) (fun _ _ _ h => h) (Or.inl ⟨by rfl, ?_⟩) hH ?_
      rotate_left
      · intro w9 hSw; (try dsimp only at hSw); obtain ⟨hS1, hS2, hS3⟩ := hSw; go_simp; try with_reducible rfl
      try simp only [Act.put, List.getElem_toArray, List.getElem_cons_succ, List.getElem_cons_zero, List.setIfInBounds_toArray, List.set_cons_zero, List.set_cons_succ]
      refine wpAnyH_ready (rs := [7]) (by kernel_rfl) (by simp) ?_
      refine AllReadyH.cons (o := _) rfl (fun K hK => ?_) AllReadyH.nil
      go_simp
      refine hK.out _ _ hH (fun hH2 => ?_)
      clear hK K hH; have hH := hH2; clear hH2
      try simp only [Act.put, List.getElem_toArray, List.getElem_cons_succ, List.getElem_cons_zero, List.setIfInBounds_toArray, List.set_cons_zero, List.set_cons_succ]
      refine wpAnyH_ready (rs := [15]) (by kernel_rfl) (by simp) ?_
      refine AllReadyH.cons (o := _) rfl (fun K hK => ?_) AllReadyH.nil
      refine wp_arith _ rfl _ _ _ _ rfl .f32 _ _ rfl rfl ?_
      intro v0 nn hcv hv0
      have HM0 := Lib.hid hcv; clear hcv
      refine hK.out _ _ (show (fun w' : World => (∀ i, w'.cell? ⟨g8, i, none⟩ = (#[.slice (some ⟨g0, 0, none⟩) n k0, .slice (some ⟨g1, 0, none⟩) n k1, .slice (some ⟨g2, 0, none⟩) n k2] : Array Value)[i]?) ∧ (∀ i, w'.cell? ⟨gz, i, none⟩ = (#[.slice (some ⟨p0, po0, none⟩) n d0, .slice (some ⟨p1, po1, none⟩) n d1, .slice (some ⟨p2, po2, none⟩) n d2] : Array Value)[i]?) ∧ w'.cell? ⟨p0, po0 + k, none⟩ = some (.float .f32 yy)) _ from hH) (fun hH2 => ?_)
      clear hK K hH; have hH := hH2; clear hH2
      try simp only [Act.put, List.getElem_toArray, List.getElem_cons_succ, List.getElem_cons_zero, List.setIfInBounds_toArray, List.set_cons_zero, List.set_cons_succ]
      replace cd : (N0a.drewN nn).cell? ⟨g0, k, none⟩ = some (.float .f32 zz) := cd
      replace cf : (N0a.drewN nn).frozen? ⟨g0, k, none⟩ = false := cf
      replace B8d : Blk (N0a.drewN nn) g8 _ _ := B8d
      replace Od0 : OwnV (N0a.drewN nn) w.heap.size (some ⟨g0, 0, none⟩) (fvals L0) := Od0
      replace Od1 : OwnV (N0a.drewN nn) w.heap.size (some ⟨g1, 0, none⟩) (fvals L1) := Od1
      replace Od2 : OwnV (N0a.drewN nn) w.heap.size (some ⟨g2, 0, none⟩) (fvals L2) := Od2
      replace HBd : Hid (Below w.heap.size w (N0a.drewN nn)) := Lib.hid (below_drewN HBd.out nn)
      replace R : Blk (N0a.drewN nn) _ _ _ := R; replace hsz : _ ≤ (N0a.drewN nn).heap.size := hsz
      generalize N0a.drewN nn = N0b at *
      refine wpAnyH_ready (rs := [16]) (by kernel_rfl) (by simp) ?_
      refine AllReadyH.cons (o := _) rfl (fun K hK => ?_) AllReadyH.nil
      go_simp
      refine hK.out _ _ hH (fun hH2 => ?_)
      clear hK K hH; have hH := hH2; clear hH2
      try simp only [Act.put, List.getElem_toArray, List.getElem_cons_succ, List.getElem_cons_zero, List.setIfInBounds_toArray, List.set_cons_zero, List.set_cons_succ]
      refine wpAnyH_ready (rs := [17]) (by kernel_rfl) (by simp) ?_
      refine AllReadyH.cons (o := _) rfl (fun K hK => ?_) AllReadyH.nil
      go_simp
      have B8 := B8d.setOther (p := ⟨g0, k, none⟩) (by dsimp only; omega) (.float .f32 v0)
      have op := own_put Od0 k (.float .f32 v0) (by rw [fvals_length]; exact kL0)
      rw [fvals_set] at op
      have O0 := Lib.hid op; clear op
      have O1 := Lib.hid (Od1.set (p := ⟨g0, k, none⟩) (ne_block (h := g0) (by omega)) (.float .f32 v0))
      have O2 := Lib.hid (Od2.set (p := ⟨g0, k, none⟩) (ne_block (h := g0) (by omega)) (.float .f32 v0))
      have HB := Lib.hid (HBd.out.setCell (p := ⟨g0, k, none⟩) (by dsimp only; omega) (.float .f32 v0))
      have zy := row_cell HH3.out HB.out kZ0; rw [hyy] at zy
      refine hK.out _ _ ⟨B8.open.1, (Z.later HB.out).open.1, zy⟩ (fun hH2 => ?_)
      clear hK K hH hH2 zy
      replace R := R.setOther (p := ⟨g0, k, none⟩) (by dsimp only; omega) (.float .f32 v0); replace hsz : _ ≤ (N0b.setCell ⟨g0, k, none⟩ (.float .f32 v0)).heap.size := (by simpa using hsz)
      clear B8d Od0 Od1 Od2 HBd cd cf
      generalize N0b.setCell ⟨g0, k, none⟩ (.float .f32 v0) = N0 at *
      try simp only [Act.put, List.getElem_toArray, List.getElem_cons_succ, List.getElem_cons_zero, List.setIfInBounds_toArray, List.set_cons_zero, List.set_cons_succ]
      refine wpAnyH_done (by kernel_rfl) ?_ _
      obtain ⟨b8c, b8f⟩ := B8.open
      go_upto_region 6 with (fail)
      clear b8c b8f
      obtain ⟨cs, tt, _, hblk, hvv⟩ := own_some O1.out
      obtain ⟨gc, gf⟩ := hblk.open
      have cd : N0.drew.cell? ⟨g1, k, none⟩ = some _ := (gc _).trans (hvv k _ (fvals_get kL1))
      have cf : N0.drew.frozen? ⟨g1, k, none⟩ = false := gf _
      have B8d : Blk N0.drew g8 _ _ := B8
      have Od0 : OwnV N0.drew w.heap.size (some ⟨g0, 0, none⟩) (fvals (L0.set k v0)) := O0.out
      have Od1 : OwnV N0.drew w.heap.size (some ⟨g1, 0, none⟩) (fvals L1) := O1.out
      have Od2 : OwnV N0.drew w.heap.size (some ⟨g2, 0, none⟩) (fvals L2) := O2.out
      have HBd : Hid (Below w.heap.size w N0.drew) := Lib.hid HB.out.drew
      have zy := row_cell HH4.out HBd.out kZ1
      replace R : Blk N0.drew _ _ _ := R; replace hsz : _ ≤ N0.drew.heap.size := hsz
      clear gc hvv hblk gf O0 O1 O2 HB B8
      generalize hyy : x2[k] = yy at *
      refine wp_region_held_drew (S := (fun w' : World => (∀ i, w'.cell? ⟨g8, i, none⟩ = (#[.slice (some ⟨g0, 0, none⟩) n k0, .slice (some ⟨g1, 0, none⟩) n k1, .slice (some ⟨g2, 0, none⟩) n k2] : Array Value)[i]?) ∧ (∀ i, w'.cell? ⟨gz, i, none⟩ = (#[.slice (some ⟨p0, po0, none⟩) n d0, .slice (some ⟨p1, po1, none⟩) n d1, .slice (some ⟨p2, po2, none⟩) n d2] : Array Value)[i]?) ∧ w'.cell? ⟨p1, po1 + k, none⟩ = some (.float .f32 yy))) (by kernel_rfl) ⟨B8d.open.1, (Z.later HBd.out).open.1, zy⟩ (fun hH => ?_)
      clear zy
      generalize N0.drew = N1a at *
      generalize hzz : L1[k] = zz at *
      refine wpAnyH_take (i := 0) (v := ?_) rfl (by kernel_rfl) (by kernel_rfl) (by kernel_rfl) (fun _ _ _ h => h) (Or.inl ⟨by rfl, ?_⟩) hH ?_
      rotate_left
      · intro w9 hSw; (try dsimp only at hSw); obtain ⟨hS1, hS2, hS3⟩ := hSw; go_simp; try with_reducible rfl
      try simp only [Act.put, List.getElem_toArray, List.getElem_cons_succ, List.getElem_cons_zero, List.setIfInBounds_toArray, List.set_cons_zero, List.set_cons_succ]
      refine wpAnyH_take (i := 1) (v := ?_) rfl (by kernel_rfl) (by kernel_rfl) (by kernel_rfl) (fun _ _ _ h => h) (Or.inl ⟨by rfl, ?_⟩) hH ?_
      rotate_left
      · intro w9 hSw; (try dsimp only at hSw); obtain ⟨hS1, hS2, hS3⟩ := hSw; go_simp; try with_reducible rfl
      try simp only [Act.put, List.getElem_toArray, List.getElem_cons_succ, List.getElem_cons_zero, List.setIfInBounds_toArray, List.set_cons_zero, List.set_cons_succ]
      refine wpAnyH_take (i := 2) (v := ?_) rfl (by kernel_rfl) (by kernel_rfl) (by kernel_rfl) (fun _ _ _ h => h) (Or.inl ⟨by rfl, ?_⟩) hH ?_
      rotate_left
      · intro w9 hSw; (try dsimp only at hSw); obtain ⟨hS1, hS2, hS3⟩ := hSw; go_simp; try with_reducible rfl
      try simp only [Act.put, List.getElem_toArray, List.getElem_cons_succ, List.getElem_cons_zero, List.setIfInBounds_toArray, List.set_cons_zero, List.set_cons_succ]
      refine wpAnyH_take (i := 3) (v := ?_) rfl (by kernel_rfl) (by kernel_rfl) (by kernel_rfl) (fun _ _ _ h => h) (Or.inl ⟨by rfl, ?_⟩) hH ?_
      rotate_left
      · intro w9 hSw; (try dsimp only at hSw); obtain ⟨hS1, hS2, hS3⟩ := hSw; go_simp; try with_reducible rfl
      try simp only [Act.put, List.getElem_toArray, List.getElem_cons_succ, List.getElem_cons_zero, List.setIfInBounds_toArray, List.set_cons_zero, List.set_cons_succ]
      refine wpAnyH_take (i := 4) (v := ?_) rfl (by kernel_rfl) (by kernel_rfl) (by kernel_rfl) (fun _ _ _ h => h) (Or.inl ⟨by rfl, ?_⟩) hH ?_
      rotate_left
      · intro w9 hSw; (try dsimp only at hSw); obtain ⟨hS1, hS2, hS3⟩ := hSw; go_simp; try with_reducible rfl
      try simp only [Act.put, List.getElem_toArray, List.getElem_cons_succ, List.getElem_cons_zero, List.setIfInBounds_toArray, List.set_cons_zero, List.set_cons_succ]
      refine wpAnyH_take (i := 5) (v := ?_) rfl (by kernel_rfl) (by kernel_rfl) (by kernel_rfl) (fun _ _ _ h => h) (Or.inl ⟨by rfl, ?_⟩) hH ?_
      rotate_left
      · intro w9 hSw; (try dsimp only at hSw); obtain ⟨hS1, hS2, hS3⟩ := hSw; go_simp; try with_reducible rfl
      try simp only [Act.put, List.getElem_toArray, List.getElem_cons_succ, List.getElem_cons_zero, List.setIfInBounds_toArray, List.set_cons_zero, List.set_cons_succ]
      refine wpAnyH_take (i := 6) (v := ?_) rfl (by kernel_rfl) (by kernel_rfl) (by kernel_rfl) (fun _ _ _ h => h) (Or.inl ⟨by rfl, ?_⟩) hH ?_
      rotate_left
      · intro w9 hSw; (try dsimp only at hSw); obtain ⟨hS1, hS2, hS3⟩ := hSw; go_simp; try with_reducible rfl
      try simp only [Act.put, List.getElem_toArray, List.getElem_cons_succ, List.getElem_cons_zero, List.setIfInBounds_toArray, List.set_cons_zero, List.set_cons_succ]
      refine wpAnyH_take (i := 8) (v := ?_) rfl (by kernel_rfl) (by kernel_rfl) (by kernel_rfl) (fun _ _ _ h => h) (Or.inl ⟨by rfl, ?_⟩) hH ?_
      rotate_left
      · intro w9 hSw; (try dsimp only at hSw); obtain ⟨hS1, hS2, hS3⟩ := hSw; go_simp; try with_reducible rfl
      try simp only [Act.put, List.getElem_toArray, List.getElem_cons_succ, List.getElem_cons_zero, List.setIfInBounds_toArray, List.set_cons_zero, List.set_cons_succ]
      refine wpAnyH_take (i := 9) (v := ?_) rfl (by kernel_rfl) (by kernel_rfl) (by kernel_rfl) (fun _ _ _ h => h) (Or.inl ⟨by rfl, ?_⟩) hH ?_
      rotate_left
      · intro w9 hSw; (try dsimp only at hSw); obtain ⟨hS1, hS2, hS3⟩ := hSw; go_simp; try with_reducible rfl
      try simp only [Act.put, List.getElem_toArray, List.getElem_cons_succ, List.getElem_cons_zero, List.setIfInBounds_toArray, List.set_cons_zero, List.set_cons_succ]
      refine wpAnyH_take (i := 10) (v := ?_) rfl (by kernel_rfl) (by kernel_rfl) (by kernel_rfl) (fun _ _ _ h => h) (Or.inl ⟨by rfl, ?_⟩) hH ?_
      rotate_left
      · intro w9 hSw; (try dsimp only at hSw); obtain ⟨hS1, hS2, hS3⟩ := hSw; go_simp; try with_reducible rfl
      try simp only [Act.put, List.getElem_toArray, List.getElem_cons_succ, List.getElem_cons_zero, List.setIfInBounds_toArray, List.set_cons_zero, List.set_cons_succ]
      refine wpAnyH_take (i := 11) (v := ?_) rfl (by kernel_rfl) (by kernel_rfl) (by kernel_rfl) (fun _ _ _ h => h) (Or.inl ⟨by rfl, ?_⟩) hH ?_
      rotate_left
      · intro w9 hSw; (try dsimp only at hSw); obtain ⟨hS1, hS2, hS3⟩ := hSw; go_simp; try with_reducible rfl
      try simp only [Act.put, List.getElem_toArray, List.getElem_cons_succ, List.getElem_cons_zero, List.setIfInBounds_toArray, List.set_cons_zero, List.set_cons_succ]
      refine wpAnyH_take (i := 12) (v := ?_) rfl (by kernel_rfl) (by kernel_rfl) (by kernel_rfl) (fun _ _ _ h => h) (Or.inl ⟨by rfl, ?_⟩) hH ?_
      rotate_left
      · intro w9 hSw; (try dsimp only at hSw); obtain ⟨hS1, hS2, hS3⟩ := hSw; go_simp; try with_reducible rfl
      try simp only [Act.put, List.getElem_toArray, List.getElem_cons_succ, List.getElem_cons_zero, List.setIfInBounds_toArray, List.set_cons_zero, List.set_cons_succ]
      refine wpAnyH_take (i := 13) (v := ?_) rfl (by kernel_rfl) (by kernel_rfl) (by kernel_rfl) (fun _ _ _ h => h) (Or.inl ⟨by rfl, ?_⟩) hH ?_
      rotate_left
      · intro w9 hSw; (try dsimp only at hSw); obtain ⟨hS1, hS2, hS3⟩ := hSw; go_simp; try with_reducible rfl
      try simp only [Act.put, List.getElem_toArray, List.getElem_cons_succ, List.getElem_cons_zero, List.setIfInBounds_toArray, List.set_cons_zero, List.set_cons_succ]
      refine wpAnyH_take (i := 14) (v := ?_) rfl (by kernel_rfl) (by kernel_rfl) (by kernel_rfl) (fun _ _ _ h => h) (Or.inl ⟨by rfl, ?_⟩) hH ?_
      rotate_left
      · intro w9 hSw; (try dsimp only at hSw); obtain ⟨hS1, hS2, hS3⟩ := hSw; go_simp; try with_reducible rfl
      try simp only [Act.put, List.getElem_toArray, List.getElem_cons_succ, List.getElem_cons_zero, List.setIfInBounds_toArray, List.set_cons_zero, List.set_cons_succ]
      refine wpAnyH_ready (rs := [7]) (by kernel_rfl) (by simp) ?_
      refine AllReadyH.cons (o := _) rfl (fun K hK => ?_) AllReadyH.nil
      go_simp
      refine hK.out _ _ hH (fun hH2 => ?_)
      clear hK K hH; have hH := hH2; clear hH2
      try simp only [Act.put, List.getElem_toArray, List.getElem_cons_succ, List.getElem_cons_zero, List.setIfInBounds_toArray, List.set_cons_zero, List.set_cons_succ]
      refine wpAnyH_ready (rs := [15]) (by kernel_rfl) (by simp) ?_
      refine AllReadyH.cons (o := _) rfl (fun K hK => ?_) AllReadyH.nil
      refine wp_arith _ rfl _ _ _ _ rfl .f32 _ _ rfl rfl ?_
      intro v1 nn hcv hv1
      have HM1 := Lib.hid hcv; clear hcv
      refine hK.out _ _ (show (fun w' : World => (∀ i, w'.cell? ⟨g8, i, none⟩ = (#[.slice (some ⟨g0, 0, none⟩) n k0, .slice (some ⟨g1, 0, none⟩) n k1, .slice (some ⟨g2, 0, none⟩) n k2] : Array Value)[i]?) ∧ (∀ i, w'.cell? ⟨gz, i, none⟩ = (#[.slice (some ⟨p0, po0, none⟩) n d0, .slice (some ⟨p1, po1, none⟩) n d1, .slice (some ⟨p2, po2, none⟩) n d2] : Array Value)[i]?) ∧ w'.cell? ⟨p1, po1 + k, none⟩ = some (.float .f32 yy)) _ from hH) (fun hH2 => ?_)
      clear hK K hH; have hH := hH2; clear hH2
      try simp only [Act.put, List.getElem_toArray, List.getElem_cons_succ, List.getElem_cons_zero, List.setIfInBounds_toArray, List.set_cons_zero, List.set_cons_succ]
      replace cd : (N1a.drewN nn).cell? ⟨g1, k, none⟩ = some (.float .f32 zz) := cd
      replace cf : (N1a.drewN nn).frozen? ⟨g1, k, none⟩ = false := cf
      replace B8d : Blk (N1a.drewN nn) g8 _ _ := B8d
      replace Od0 : OwnV (N1a.drewN nn) w.heap.size (some ⟨g0, 0, none⟩) (fvals (L0.set k v0)) := Od0
      replace Od1 : OwnV (N1a.drewN nn) w.heap.size (some ⟨g1, 0, none⟩) (fvals L1) := Od1
      replace Od2 : OwnV (N1a.drewN nn) w.heap.size (some ⟨g2, 0, none⟩) (fvals L2) := Od2
      replace HBd : Hid (Below w.heap.size w (N1a.drewN nn)) := Lib.hid (below_drewN HBd.out nn)
      replace R : Blk (N1a.drewN nn) _ _ _ := R; replace hsz : _ ≤ (N1a.drewN nn).heap.size := hsz
      generalize N1a.drewN nn = N1b at *
      refine wpAnyH_ready (rs := [16]) (by kernel_rfl) (by simp) ?_
      refine AllReadyH.cons (o := _) rfl (fun K hK => ?_) AllReadyH.nil
      go_simp
      refine hK.out _ _ hH (fun hH2 => ?_)
      clear hK K hH; have hH := hH2; clear hH2
      try simp only [Act.put, List.getElem_toArray, List.getElem_cons_succ, List.getElem_cons_zero, List.setIfInBounds_toArray, List.set_cons_zero, List.set_cons_succ]
      refine wpAnyH_ready (rs := [17]) (by kernel_rfl) (by simp) ?_
      refine AllReadyH.cons (o := _) rfl (fun K hK => ?_) AllReadyH.nil
      go_simp
      have B8 := B8d.setOther (p := ⟨g1, k, none⟩) (by dsimp only; omega) (.float .f32 v1)
      have op := own_put Od1 k (.float .f32 v1) (by rw [fvals_length]; exact kL1)
      rw [fvals_set] at op
      have O1 := Lib.hid op; clear op
      have O0 := Lib.hid (Od0.set (p := ⟨g1, k, none⟩) (ne_block (h := g1) (by omega)) (.float .f32 v1))
      have O2 := Lib.hid (Od2.set (p := ⟨g1, k, none⟩) (ne_block (h := g1) (by omega)) (.float .f32 v1))
      have HB := Lib.hid (HBd.out.setCell (p := ⟨g1, k, none⟩) (by dsimp only; omega) (.float .f32 v1))
      have zy := row_cell HH4.out HB.out kZ1; rw [hyy] at zy
      refine hK.out _ _ ⟨B8.open.1, (Z.later HB.out).open.1, zy⟩ (fun hH2 => ?_)
      clear hK K hH hH2 zy
      replace R := R.setOther (p := ⟨g1, k, none⟩) (by dsimp only; omega) (.float .f32 v1); replace hsz : _ ≤ (N1b.setCell ⟨g1, k, none⟩ (.float .f32 v1)).heap.size := (by simpa using hsz)
      clear B8d Od0 Od1 Od2 HBd cd cf
      generalize N1b.setCell ⟨g1, k, none⟩ (.float .f32 v1) = N1 at *
      try simp only [Act.put, List.getElem_toArray, List.getElem_cons_succ, List.getElem_cons_zero, List.setIfInBounds_toArray, List.set_cons_zero, List.set_cons_succ]
      refine wpAnyH_done (by kernel_rfl) ?_ _
      obtain ⟨b8c, b8f⟩ := B8.open
      go_upto_region 7 with (fail)
      clear b8c b8f
      obtain ⟨cs, tt, _, hblk, hvv⟩ := own_some O2.out
      obtain ⟨gc, gf⟩ := hblk.open
      have cd : N1.drew.cell? ⟨g2, k, none⟩ = some _ := (gc _).trans (hvv k _ (fvals_get kL2))
      have cf : N1.drew.frozen? ⟨g2, k, none⟩ = false := gf _
      have B8d : Blk N1.drew g8 _ _ := B8
      have Od0 : OwnV N1.drew w.heap.size (some ⟨g0, 0, none⟩) (fvals (L0.set k v0)) := O0.out
      have Od1 : OwnV N1.drew w.heap.size (some ⟨g1, 0, none⟩) (fvals (L1.set k v1)) := O1.out
      have Od2 : OwnV N1.drew w.heap.size (some ⟨g2, 0, none⟩) (fvals L2) := O2.out
      have HBd : Hid (Below w.heap.size w N1.drew) := Lib.hid HB.out.drew
      have zy := row_cell HH5.out HBd.out kZ2
      replace R : Blk N1.drew _ _ _ := R; replace hsz : _ ≤ N1.drew.heap.size := hsz
      clear gc hvv hblk gf O0 O1 O2 HB B8
      generalize hyy : y2[k] = yy at *
      refine wp_region_held_drew (S := (fun w' : World => (∀ i, w'.cell? ⟨g8, i, none⟩ = (#[.slice (some ⟨g0, 0, none⟩) n k0, .slice (some ⟨g1, 0, none⟩) n k1, .slice (some ⟨g2, 0, none⟩) n k2] : Array Value)[i]?) ∧ (∀ i, w'.cell? ⟨gz, i, none⟩ = (#[.slice (some ⟨p0, po0, none⟩) n d0, .slice (some ⟨p1, po1, none⟩) n d1, .slice (some ⟨p2, po2, none⟩) n d2] : Array Value)[i]?) ∧ w'.cell? ⟨p2, po2 + k, none⟩ = some (.float .f32 yy))) (by kernel_rfl) ⟨B8d.open.1, (Z.later HBd.out).open.1, zy⟩ (fun hH => ?_)
      clear zy
      generalize N1.drew = N2a at *
      generalize hzz : L2[k] = zz at *
      refine wpAnyH_take (i := 0) (v := ?_) rfl (by kernel_rfl) (by kernel_rfl) (by kernel_rfl) (fun _ _ _ h => h) (Or.inl ⟨by rfl, ?_⟩) hH ?_
      rotate_left
      · intro w9 hSw; (try dsimp only at hSw); obtain ⟨hS1, hS2, hS3⟩ := hSw; go_simp; try with_reducible rfl
      try simp only [Act.put, List.getElem_toArray, List.getElem_cons_succ, List.getElem_cons_zero, List.setIfInBounds_toArray, List.set_cons_zero, List.set_cons_succ]
      refine wpAnyH_take (i := 1) (v := ?_) rfl (by kernel_rfl) (by kernel_rfl) (by kernel_rfl) (fun _ _ _ h => h) (Or.inl ⟨by rfl, ?_⟩) hH ?_
      rotate_left
      · intro w9 hSw; (try dsimp only at hSw); obtain ⟨hS1, hS2, hS3⟩ := hSw; go_simp; try with_reducible rfl
      try simp only [Act.put, List.getElem_toArray, List.getElem_cons_succ, List.getElem_cons_zero, List.setIfInBounds_toArray, List.set_cons_zero, List.set_cons_succ]
      refine wpAnyH_take (i := 2) (v := ?_) rfl (by kernel_rfl) (by kernel_rfl) (by kernel_rfl) (fun _ _ _ h => h) (Or.inl ⟨by rfl, ?_⟩) hH ?_
      rotate_left
      · intro w9 hSw; (try dsimp only at hSw); obtain ⟨hS1, hS2, hS3⟩ := hSw; go_simp; try with_reducible rfl
      try simp only [Act.put, List.getElem_toArray, List.getElem_cons_succ, List.getElem_cons_zero, List.setIfInBounds_toArray, List.set_cons_zero, List.set_cons_succ]
      refine wpAnyH_take (i := 3) (v := ?_) rfl (by kernel_rfl) (by kernel_rfl) (by kernel_rfl) (fun _ _ _ h => h) (Or.inl ⟨by rfl, ?_⟩) hH ?_
      rotate_left
      · intro w9 hSw; (try dsimp only at hSw); obtain ⟨hS1, hS2, hS3⟩ := hSw; go_simp; try with_reducible rfl
      try simp only [Act.put, List.getElem_toArray, List.getElem_cons_succ, List.getElem_cons_zero, List.setIfInBounds_toArray, List.set_cons_zero, List.set_cons_succ]
      refine wpAnyH_take (i := 4) (v := ?_) rfl (by kernel_rfl) (by kernel_rfl) (by kernel_rfl) (fun _ _ _ h => h) (Or.inl ⟨by rfl, ?_⟩) hH ?_
      rotate_left
      · intro w9 hSw; (try dsimp only at hSw); obtain ⟨hS1, hS2, hS3⟩ := hSw; go_simp; try with_reducible rfl
      try simp only [Act.put, List.getElem_toArray, List.getElem_cons_succ, List.getElem_cons_zero, List.setIfInBounds_toArray, List.set_cons_zero, List.set_cons_succ]
      refine wpAnyH_take (i := 5) (v := ?_) rfl (by kernel_rfl) (by kernel_rfl) (by kernel_rfl) (fun _ _ _ h => h) (Or.inl ⟨by rfl, ?_⟩) hH ?_
      rotate_left
      · intro w9 hSw; (try dsimp only at hSw); obtain ⟨hS1, hS2, hS3⟩ := hSw; go_simp; try with_reducible rfl
      try simp only [Act.put, List.getElem_toArray, List.getElem_cons_succ, List.getElem_cons_zero, List.setIfInBounds_toArray, List.set_cons_zero, List.set_cons_succ]
      refine wpAnyH_take (i := 6) (v := ?_) rfl (by kernel_rfl) (by kernel_rfl) (by kernel_rfl) (fun _ _ _ h => h) (Or.inl ⟨by rfl, ?_⟩) hH ?_
      rotate_left
      · intro w9 hSw; (try dsimp only at hSw); obtain ⟨hS1, hS2, hS3⟩ := hSw; go_simp; try with_reducible rfl
      try simp only [Act.put, List.getElem_toArray, List.getElem_cons_succ, List.getElem_cons_zero, List.setIfInBounds_toArray, List.set_cons_zero, List.set_cons_succ]
      refine wpAnyH_take (i := 8) (v := ?_) rfl (by kernel_rfl) (by kernel_rfl) (by kernel_rfl) (fun _ _ _ h => h) (Or.inl ⟨by rfl, ?_⟩) hH ?_
      rotate_left
      · intro w9 hSw; (try dsimp only at hSw); obtain ⟨hS1, hS2, hS3⟩ := hSw; go_simp; try with_reducible rfl
      try simp only [Act.put, List.getElem_toArray, List.getElem_cons_succ, List.getElem_cons_zero, List.setIfInBounds_toArray, List.set_cons_zero, List.set_cons_succ]
      refine wpAnyH_take (i := 9) (v := ?_) rfl (by kernel_rfl) (by kernel_rfl) (by kernel_rfl) (fun _ _ _ h => h) (Or.inl ⟨by rfl, ?_⟩) hH ?_
      rotate_left
      · intro w9 hSw; (try dsimp only at hSw); obtain ⟨hS1, hS2, hS3⟩ := hSw; go_simp; try with_reducible rfl
      try simp only [Act.put, List.getElem_toArray, List.getElem_cons_succ, List.getElem_cons_zero, List.setIfInBounds_toArray, List.set_cons_zero, List.set_cons_succ]
      refine wpAnyH_take (i := 10) (v := ?_) rfl (by kernel_rfl) (by kernel_rfl) (by kernel_rfl) (fun _ _ _ h => h) (Or.inl ⟨by rfl, ?_⟩) hH ?_
      rotate_left
      · intro w9 hSw; (try dsimp only at hSw); obtain ⟨hS1, hS2, hS3⟩ := hSw; go_simp; try with_reducible rfl
      try simp only [Act.put, List.getElem_toArray, List.getElem_cons_succ, List.getElem_cons_zero, List.setIfInBounds_toArray, List.set_cons_zero, List.set_cons_succ]
      refine wpAnyH_take (i := 11) (v := ?_) rfl (by kernel_rfl) (by kernel_rfl) (by kernel_rfl) (fun _ _ _ h => h) (Or.inl ⟨by rfl, ?_⟩) hH ?_
      rotate_left
      · intro w9 hSw; (try dsimp only at hSw); obtain ⟨hS1, hS2, hS3⟩ := hSw; go_simp; try with_reducible rfl
      try simp only [Act.put, List.getElem_toArray, List.getElem_cons_succ, List.getElem_cons_zero, List.setIfInBounds_toArray, List.set_cons_zero, List.set_cons_succ]
      refine wpAnyH_take (i := 12) (v := ?_) rfl (by kernel_rfl) (by kernel_rfl) (by kernel_rfl) (fun _ _ _ h => h) (Or.inl ⟨by rfl, ?_⟩) hH ?_
      rotate_left
      · intro w9 hSw; (try dsimp only at hSw); obtain ⟨hS1, hS2, hS3⟩ := hSw; go_simp; try with_reducible rfl
      try simp only [Act.put, List.getElem_toArray, List.getElem_cons_succ, List.getElem_cons_zero, List.setIfInBounds_toArray, List.set_cons_zero, List.set_cons_succ]
      refine wpAnyH_take (i := 13) (v := ?_) rfl (by kernel_rfl) (by kernel_rfl) (by kernel_rfl) (fun _ _ _ h => h) (Or.inl ⟨by rfl, ?_⟩) hH ?_
      rotate_left
      · intro w9 hSw; (try dsimp only at hSw); obtain ⟨hS1, hS2, hS3⟩ := hSw; go_simp; try with_reducible rfl
      try simp only [Act.put, List.getElem_toArray, List.getElem_cons_succ, List.getElem_cons_zero, List.setIfInBounds_toArray, List.set_cons_zero, List.set_cons_succ]
      refine wpAnyH_take (i := 14) (v := ?_) rfl (by kernel_rfl) (by kernel_rfl) (by kernel_rfl) (fun _ _ _ h => h) (Or.inl ⟨by rfl, ?_⟩) hH ?_
      rotate_left
      · intro w9 hSw; (try dsimp only at hSw); obtain ⟨hS1, hS2, hS3⟩ := hSw; go_simp; try with_reducible rfl
      try simp only [Act.put, List.getElem_toArray, List.getElem_cons_succ, List.getElem_cons_zero, List.setIfInBounds_toArray, List.set_cons_zero, List.set_cons_succ]
      refine wpAnyH_ready (rs := [7]) (by kernel_rfl) (by simp) ?_
      refine AllReadyH.cons (o := _) rfl (fun K hK => ?_) AllReadyH.nil
      go_simp
      refine hK.out _ _ hH (fun hH2 => ?_)
      clear hK K hH; have hH := hH2; clear hH2
      try simp only [Act.put, List.getElem_toArray, List.getElem_cons_succ, List.getElem_cons_zero, List.setIfInBounds_toArray, List.set_cons_zero, List.set_cons_succ]
      refine wpAnyH_ready (rs := [15]) (by kernel_rfl) (by simp) ?_
      refine AllReadyH.cons (o := _) rfl (fun K hK => ?_) AllReadyH.nil
      refine wp_arith _ rfl _ _ _ _ rfl .f32 _ _ rfl rfl ?_
      intro v2 nn hcv hv2
      have HM2 := Lib.hid hcv; clear hcv
      refine hK.out _ _ (show (fun w' : World => (∀ i, w'.cell? ⟨g8, i, none⟩ = (#[.slice (some ⟨g0, 0, none⟩) n k0, .slice (some ⟨g1, 0, none⟩) n k1, .slice (some ⟨g2, 0, none⟩) n k2] : Array Value)[i]?) ∧ (∀ i, w'.cell? ⟨gz, i, none⟩ = (#[.slice (some ⟨p0, po0, none⟩) n d0, .slice (some ⟨p1, po1, none⟩) n d1, .slice (some ⟨p2, po2, none⟩) n d2] : Array Value)[i]?) ∧ w'.cell? ⟨p2, po2 + k, none⟩ = some (.float .f32 yy)) _ from hH) (fun hH2 => ?_)
      clear hK K hH; have hH := hH2; clear hH2
      try simp only [Act.put, List.getElem_toArray, List.getElem_cons_succ, List.getElem_cons_zero, List.setIfInBounds_toArray, List.set_cons_zero, List.set_cons_succ]
      replace cd : (N2a.drewN nn).cell? ⟨g2, k, none⟩ = some (.float .f32 zz) := cd
      replace cf : (N2a.drewN nn).frozen? ⟨g2, k, none⟩ = false := cf
      replace B8d : Blk (N2a.drewN nn) g8 _ _ := B8d
      replace Od0 : OwnV (N2a.drewN nn) w.heap.size (some ⟨g0, 0, none⟩) (fvals (L0.set k v0)) := Od0
      replace Od1 : OwnV (N2a.drewN nn) w.heap.size (some ⟨g1, 0, none⟩) (fvals (L1.set k v1)) := Od1
      replace Od2 : OwnV (N2a.drewN nn) w.heap.size (some ⟨g2, 0, none⟩) (fvals L2) := Od2
      replace HBd : Hid (Below w.heap.size w (N2a.drewN nn)) := Lib.hid (below_drewN HBd.out nn)
      replace R : Blk (N2a.drewN nn) _ _ _ := R; replace hsz : _ ≤ (N2a.drewN nn).heap.size := hsz
      generalize N2a.drewN nn = N2b at *
      refine wpAnyH_ready (rs := [16]) (by kernel_rfl) (by simp) ?_
      refine AllReadyH.cons (o := _) rfl (fun K hK => ?_) AllReadyH.nil
      go_simp
      refine hK.out _ _ hH (fun hH2 => ?_)
      clear hK K hH; have hH := hH2; clear hH2
      try simp only [Act.put, List.getElem_toArray, List.getElem_cons_succ, List.getElem_cons_zero, List.setIfInBounds_toArray, List.set_cons_zero, List.set_cons_succ]
      refine wpAnyH_ready (rs := [17]) (by kernel_rfl) (by simp) ?_
      refine AllReadyH.cons (o := _) rfl (fun K hK => ?_) AllReadyH.nil
      go_simp
      have B8 := B8d.setOther (p := ⟨g2, k, none⟩) (by dsimp only; omega) (.float .f32 v2)
      have op := own_put Od2 k (.float .f32 v2) (by rw [fvals_length]; exact kL2)
      rw [fvals_set] at op
      have O2 := Lib.hid op; clear op
      have O0 := Lib.hid (Od0.set (p := ⟨g2, k, none⟩) (ne_block (h := g2) (by omega)) (.float .f32 v2))
      have O1 := Lib.hid (Od1.set (p := ⟨g2, k, none⟩) (ne_block (h := g2) (by omega)) (.float .f32 v2))
      have HB := Lib.hid (HBd.out.setCell (p := ⟨g2, k, none⟩) (by dsimp only; omega) (.float .f32 v2))
      have zy := row_cell HH5.out HB.out kZ2; rw [hyy] at zy
      refine hK.out _ _ ⟨B8.open.1, (Z.later HB.out).open.1, zy⟩ (fun hH2 => ?_)
      clear hK K hH hH2 zy
      replace R := R.setOther (p := ⟨g2, k, none⟩) (by dsimp only; omega) (.float .f32 v2); replace hsz : _ ≤ (N2b.setCell ⟨g2, k, none⟩ (.float .f32 v2)).heap.size := (by simpa using hsz)
      clear B8d Od0 Od1 Od2 HBd cd cf
      generalize N2b.setCell ⟨g2, k, none⟩ (.float .f32 v2) = N2 at *
      try simp only [Act.put, List.getElem_toArray, List.getElem_cons_succ, List.getElem_cons_zero, List.setIfInBounds_toArray, List.set_cons_zero, List.set_cons_succ]
      refine wpAnyH_done (by kernel_rfl) ?_ _
      go_wp2
      go_roundw
      case rel => exact ⟨k + 1, _, _, _, by omega, by go_num, NX0.out v0 hv0 HM0.out, NX1.out v1 hv1 HM1.out, NX2.out v2 hv2 HM2.out, O0.out, O1.out, O2.out, B8, R, HB.out, hsz⟩
      case measure => simp [intOf]; omega
    · skip
      obtain rfl : k = n := by omega
      have i0 := HA0.out L0 M0.out.1; have i1 := HA1.out L1 M1.out.1; have i2 := HA2.out L2 M2.out.1
      obtain ⟨b8c, b8f⟩ := B8.open
      obtain ⟨Rc, Rf⟩ := R.open
      go_wp2
      refine bodyPost_ret (v := .agg #[.slice (some ⟨g0, 0, none⟩) k k0, .slice (some ⟨g1, 0, none⟩) k k1, .slice (some ⟨g2, 0, none⟩) k k2]) (by simp [results, Try.results74, go_sem, Rc]) rfl ⟨g0, g1, g2, k0, k1, k2, L0, L1, L2, rfl, (((O0.out.set (p := ⟨w.heap.size, 0, none⟩) (ne_block (h := w.heap.size) (by omega)) _).set (p := ⟨w.heap.size, 1, none⟩) (ne_block (h := w.heap.size) (by omega)) _).set (p := ⟨w.heap.size, 2, none⟩) (ne_block (h := w.heap.size) (by omega)) _), (((O1.out.set (p := ⟨w.heap.size, 0, none⟩) (ne_block (h := w.heap.size) (by omega)) _).set (p := ⟨w.heap.size, 1, none⟩) (ne_block (h := w.heap.size) (by omega)) _).set (p := ⟨w.heap.size, 2, none⟩) (ne_block (h := w.heap.size) (by omega)) _), (((O2.out.set (p := ⟨w.heap.size, 0, none⟩) (ne_block (h := w.heap.size) (by omega)) _).set (p := ⟨w.heap.size, 1, none⟩) (ne_block (h := w.heap.size) (by omega)) _).set (p := ⟨w.heap.size, 2, none⟩) (ne_block (h := w.heap.size) (by omega)) _), i0, i1, i2, g01, g12, (((HB.out.setCell (p := ⟨w.heap.size, 0, none⟩) (by first | omega | (simp <;> omega)) _).setCell (p := ⟨w.heap.size, 1, none⟩) (by first | omega | (simp <;> omega)) _).setCell (p := ⟨w.heap.size, 2, none⟩) (by first | omega | (simp <;> omega)) _)⟩

set_option maxHeartbeats 16000000 in
set_option maxRecDepth 100000 in
theorem specAddFieldsL (wd hi : Int) (wb : Bool) (a b : Option Addr) (ca cb : Nat) (xs ys : List Nat) (a0 a1 a2 : Option Addr) (c0 c1 c2 : Nat) (e x y : List Nat) (a3 a4 a5 : Option Addr) (c3 c4 c5 : Nat) (e2 x2 y2 : List Nat) (w : World) (ha : RowV w a (fvals xs)) (hb : RowV w b (fvals ys)) (qa : ∀ z ∈ xs, z < 2 ^ 32) (qb : ∀ z ∈ ys, z < 2 ^ 32) (hx : xs.length ≤ maxLen) (hy : ys.length ≤ maxLen) (h0 : RowV w a0 (fvals e)) (h1 : RowV w a1 (fvals x)) (h2 : RowV w a2 (fvals y)) (q0 : ∀ z ∈ e, z < 2 ^ 32) (q1 : ∀ z ∈ x, z < 2 ^ 32) (q2 : ∀ z ∈ y, z < 2 ^ 32) (m0 : e.length ≤ maxLen) (m1 : x.length ≤ maxLen) (m2 : y.length ≤ maxLen) (h3 : RowV w a3 (fvals e2)) (h4 : RowV w a4 (fvals x2)) (h5 : RowV w a5 (fvals y2)) (q3 : ∀ z ∈ e2, z < 2 ^ 32) (q4 : ∀ z ∈ x2, z < 2 ^ 32) (q5 : ∀ z ∈ y2, z < 2 ^ 32) (m3 : e2.length ≤ maxLen) (m4 : x2.length ≤ maxLen) (m5 : y2.length ≤ maxLen) :
    Calls Try.prog 29 #[.agg #[.int .i64 wd, .int .i64 hi, .bool wb, .slice a xs.length ca, .slice b ys.length cb], .agg #[.slice a0 e.length c0, .slice a1 x.length c1, .slice a2 y.length c2], .agg #[.slice a3 e2.length c3, .slice a4 x2.length c4, .slice a5 y2.length c5]] w (OwnO w (addB wd hi wb xs ys e x y e2 x2 y2) (addC e e2) (addC x x2) (addC y y2)) := by
  have hsb : addB wd hi wb xs ys e x y e2 x2 y2 = (validB wd hi xs ys && (fitsB wd hi wb e x y && (fitsB wd hi wb e2 x2 y2 && fitsB wd hi wb (repC (addC e e2)) (repC (addC x x2)) (repC (addC y y2))))) := rfl
  have HSB := Lib.hid hsb; clear hsb
  rcases hv : validB wd hi xs ys with _ | _
  · skip
    have HR : Hid (addB wd hi wb xs ys e x y e2 x2 y2 = false) := Lib.hid (by rw [HSB.out, hv]; rfl)
    rw [HR.out]; have H_v := Lib.hid hv; clear hv
    have X := Blk.new w #[.int .i64 wd, .int .i64 hi, .bool wb, .slice a xs.length ca, .slice b ys.length cb] 32
    have Y := Blk.new1 w (.cells #[.int .i64 wd, .int .i64 hi, .bool wb, .slice a xs.length ca, .slice b ys.length cb] 32) #[.slice a0 e.length c0, .slice a1 x.length c1, .slice a2 y.length c2] 29
    replace X := X.alloc (.cells #[.slice a0 e.length c0, .slice a1 x.length c1, .slice a2 y.length c2] 29)
    have Z := Blk.new2 w (.cells #[.int .i64 wd, .int .i64 hi, .bool wb, .slice a xs.length ca, .slice b ys.length cb] 32) (.cells #[.slice a0 e.length c0, .slice a1 x.length c1, .slice a2 y.length c2] 29) #[.slice a3 e2.length c3, .slice a4 x2.length c4, .slice a5 y2.length c5] 29
    replace X := X.alloc (.cells #[.slice a3 e2.length c3, .slice a4 x2.length c4, .slice a5 y2.length c5] 29)
    replace Y := Y.alloc (.cells #[.slice a3 e2.length c3, .slice a4 x2.length c4, .slice a5 y2.length c5] 29)
    have R := Blk.new3 w (.cells #[.int .i64 wd, .int .i64 hi, .bool wb, .slice a xs.length ca, .slice b ys.length cb] 32) (.cells #[.slice a0 e.length c0, .slice a1 x.length c1, .slice a2 y.length c2] 29) (.cells #[.slice a3 e2.length c3, .slice a4 x2.length c4, .slice a5 y2.length c5] 29) #[.slice none 0 0, .slice none 0 0, .slice none 0 0] 29
    replace X := X.alloc (.cells #[.slice none 0 0, .slice none 0 0, .slice none 0 0] 29)
    replace Y := Y.alloc (.cells #[.slice none 0 0, .slice none 0 0, .slice none 0 0] 29)
    replace Z := Z.alloc (.cells #[.slice none 0 0, .slice none 0 0, .slice none 0 0] 29)
    have HB : Hid (Below w.heap.size w ((((w.alloc (.cells #[.int .i64 wd, .int .i64 hi, .bool wb, .slice a xs.length ca, .slice b ys.length cb] 32)).alloc (.cells #[.slice a0 e.length c0, .slice a1 x.length c1, .slice a2 y.length c2] 29)).alloc (.cells #[.slice a3 e2.length c3, .slice a4 x2.length c4, .slice a5 y2.length c5] 29)).alloc (.cells #[.slice none 0 0, .slice none 0 0, .slice none 0 0] 29))) := Lib.hid (((((Below.refl w.heap.size w).alloc (by simp <;> omega) _).alloc (by simp <;> omega) _).alloc (by simp <;> omega) _).alloc (by simp <;> omega) _)
    go_enter Try.func29, Try.ntmps29
    go_wp2_with fail
    generalize ((((w.alloc (.cells #[.int .i64 wd, .int .i64 hi, .bool wb, .slice a xs.length ca, .slice b ys.length cb] 32)).alloc (.cells #[.slice a0 e.length c0, .slice a1 x.length c1, .slice a2 y.length c2] 29)).alloc (.cells #[.slice a3 e2.length c3, .slice a4 x2.length c4, .slice a5 y2.length c5] 29)).alloc (.cells #[.slice none 0 0, .slice none 0 0, .slice none 0 0] 29)) = u1 at *
    refine (specIs _ _ _ _ _ _ _ _ _ _ _ X (ha.later HB.out) (hb.later HB.out) hx hy).mono ?_
    rintro r u2 ⟨rfl, nq, hw⟩
    have q : Below u1.heap.size u1 u2 := by rw [hw]; exact below_drewN (Below.refl _ _) _
    clear hw
    replace X := X.later q
    replace Y := Y.later q
    replace Z := Z.later q
    replace R := R.later q
    replace HB := Lib.hid (HB.out.trans (q.mono HB.out.size))
    clear q
    rw [H_v.out]
    obtain ⟨Rc, Rf⟩ := R.open
    go_wp2
    refine bodyPost_ret (v := .tuple #[.agg #[.slice none 0 0, .slice none 0 0, .slice none 0 0], .bool false]) (by simp [results, Try.results29, go_sem, Rc]) rfl ⟨none, none, none, 0, 0, 0, [], [], [], rfl, OwnField.none (((HB.out.setCell (p := ⟨w.heap.size + 1 + 1 + 1, 0, none⟩) (by first | omega | (simp <;> omega)) _).setCell (p := ⟨w.heap.size + 1 + 1 + 1, 1, none⟩) (by first | omega | (simp <;> omega)) _).setCell (p := ⟨w.heap.size + 1 + 1 + 1, 2, none⟩) (by first | omega | (simp <;> omega)) _)⟩
  obtain ⟨s1, s2, s3, s4, t1, t2⟩ := sides_mul (valid_sides hv)
  rcases hf : fitsB wd hi wb e x y with _ | _
  · skip
    have HR : Hid (addB wd hi wb xs ys e x y e2 x2 y2 = false) := Lib.hid (by rw [HSB.out, hv, hf]; rfl)
    rw [HR.out]; have H_v := Lib.hid hv; have H_f := Lib.hid hf; clear hv hf t1 t2
    have X := Blk.new w #[.int .i64 wd, .int .i64 hi, .bool wb, .slice a xs.length ca, .slice b ys.length cb] 32
    have Y := Blk.new1 w (.cells #[.int .i64 wd, .int .i64 hi, .bool wb, .slice a xs.length ca, .slice b ys.length cb] 32) #[.slice a0 e.length c0, .slice a1 x.length c1, .slice a2 y.length c2] 29
    replace X := X.alloc (.cells #[.slice a0 e.length c0, .slice a1 x.length c1, .slice a2 y.length c2] 29)
    have Z := Blk.new2 w (.cells #[.int .i64 wd, .int .i64 hi, .bool wb, .slice a xs.length ca, .slice b ys.length cb] 32) (.cells #[.slice a0 e.length c0, .slice a1 x.length c1, .slice a2 y.length c2] 29) #[.slice a3 e2.length c3, .slice a4 x2.length c4, .slice a5 y2.length c5] 29
    replace X := X.alloc (.cells #[.slice a3 e2.length c3, .slice a4 x2.length c4, .slice a5 y2.length c5] 29)
    replace Y := Y.alloc (.cells #[.slice a3 e2.length c3, .slice a4 x2.length c4, .slice a5 y2.length c5] 29)
    have R := Blk.new3 w (.cells #[.int .i64 wd, .int .i64 hi, .bool wb, .slice a xs.length ca, .slice b ys.length cb] 32) (.cells #[.slice a0 e.length c0, .slice a1 x.length c1, .slice a2 y.length c2] 29) (.cells #[.slice a3 e2.length c3, .slice a4 x2.length c4, .slice a5 y2.length c5] 29) #[.slice none 0 0, .slice none 0 0, .slice none 0 0] 29
    replace X := X.alloc (.cells #[.slice none 0 0, .slice none 0 0, .slice none 0 0] 29)
    replace Y := Y.alloc (.cells #[.slice none 0 0, .slice none 0 0, .slice none 0 0] 29)
    replace Z := Z.alloc (.cells #[.slice none 0 0, .slice none 0 0, .slice none 0 0] 29)
    have HB : Hid (Below w.heap.size w ((((w.alloc (.cells #[.int .i64 wd, .int .i64 hi, .bool wb, .slice a xs.length ca, .slice b ys.length cb] 32)).alloc (.cells #[.slice a0 e.length c0, .slice a1 x.length c1, .slice a2 y.length c2] 29)).alloc (.cells #[.slice a3 e2.length c3, .slice a4 x2.length c4, .slice a5 y2.length c5] 29)).alloc (.cells #[.slice none 0 0, .slice none 0 0, .slice none 0 0] 29))) := Lib.hid (((((Below.refl w.heap.size w).alloc (by simp <;> omega) _).alloc (by simp <;> omega) _).alloc (by simp <;> omega) _).alloc (by simp <;> omega) _)
    go_enter Try.func29, Try.ntmps29
    go_wp2_with fail
    generalize ((((w.alloc (.cells #[.int .i64 wd, .int .i64 hi, .bool wb, .slice a xs.length ca, .slice b ys.length cb] 32)).alloc (.cells #[.slice a0 e.length c0, .slice a1 x.length c1, .slice a2 y.length c2] 29)).alloc (.cells #[.slice a3 e2.length c3, .slice a4 x2.length c4, .slice a5 y2.length c5] 29)).alloc (.cells #[.slice none 0 0, .slice none 0 0, .slice none 0 0] 29)) = u1 at *
    refine (specIs _ _ _ _ _ _ _ _ _ _ _ X (ha.later HB.out) (hb.later HB.out) hx hy).mono ?_
    rintro r u2 ⟨rfl, nq, hw⟩
    have q : Below u1.heap.size u1 u2 := by rw [hw]; exact below_drewN (Below.refl _ _) _
    clear hw
    replace X := X.later q
    replace Y := Y.later q
    replace Z := Z.later q
    replace R := R.later q
    replace HB := Lib.hid (HB.out.trans (q.mono HB.out.size))
    clear q
    rw [H_v.out]
    obtain ⟨Xc, Xf⟩ := X.open
    obtain ⟨Yc, Yf⟩ := Y.open
    obtain ⟨Zc, Zf⟩ := Z.open
    go_wp2_with fail
    refine (specFits _ _ _ _ _ _ _ _ _ _ _ _ _ _ _ _ _ _ _ _ _ X Y s1 s2 s3 s4 (h0.later HB.out) (h1.later HB.out) (h2.later HB.out) m0 m1 m2).mono ?_
    rintro r u3 ⟨rfl, nq, hw⟩
    have q : Below u2.heap.size u2 u3 := by rw [hw]; exact below_drewN (Below.refl _ _) _
    clear hw
    clear Xc Xf
    clear Yc Yf
    clear Zc Zf
    replace X := X.later q
    replace Y := Y.later q
    replace Z := Z.later q
    replace R := R.later q
    replace HB := Lib.hid (HB.out.trans (q.mono HB.out.size))
    clear q
    rw [H_f.out]
    obtain ⟨Rc, Rf⟩ := R.open
    go_wp2
    refine bodyPost_ret (v := .tuple #[.agg #[.slice none 0 0, .slice none 0 0, .slice none 0 0], .bool false]) (by simp [results, Try.results29, go_sem, Rc]) rfl ⟨none, none, none, 0, 0, 0, [], [], [], rfl, OwnField.none (((HB.out.setCell (p := ⟨w.heap.size + 1 + 1 + 1, 0, none⟩) (by first | omega | (simp <;> omega)) _).setCell (p := ⟨w.heap.size + 1 + 1 + 1, 1, none⟩) (by first | omega | (simp <;> omega)) _).setCell (p := ⟨w.heap.size + 1 + 1 + 1, 2, none⟩) (by first | omega | (simp <;> omega)) _)⟩
  rcases hf2 : fitsB wd hi wb e2 x2 y2 with _ | _
  · skip
    have HR : Hid (addB wd hi wb xs ys e x y e2 x2 y2 = false) := Lib.hid (by rw [HSB.out, hv, hf, hf2]; rfl)
    rw [HR.out]; have H_v := Lib.hid hv; have H_f := Lib.hid hf; have H_f2 := Lib.hid hf2; clear hv hf hf2 t1 t2
    have X := Blk.new w #[.int .i64 wd, .int .i64 hi, .bool wb, .slice a xs.length ca, .slice b ys.length cb] 32
    have Y := Blk.new1 w (.cells #[.int .i64 wd, .int .i64 hi, .bool wb, .slice a xs.length ca, .slice b ys.length cb] 32) #[.slice a0 e.length c0, .slice a1 x.length c1, .slice a2 y.length c2] 29
    replace X := X.alloc (.cells #[.slice a0 e.length c0, .slice a1 x.length c1, .slice a2 y.length c2] 29)
    have Z := Blk.new2 w (.cells #[.int .i64 wd, .int .i64 hi, .bool wb, .slice a xs.length ca, .slice b ys.length cb] 32) (.cells #[.slice a0 e.length c0, .slice a1 x.length c1, .slice a2 y.length c2] 29) #[.slice a3 e2.length c3, .slice a4 x2.length c4, .slice a5 y2.length c5] 29
    replace X := X.alloc (.cells #[.slice a3 e2.length c3, .slice a4 x2.length c4, .slice a5 y2.length c5] 29)
    replace Y := Y.alloc (.cells #[.slice a3 e2.length c3, .slice a4 x2.length c4, .slice a5 y2.length c5] 29)
    have R := Blk.new3 w (.cells #[.int .i64 wd, .int .i64 hi, .bool wb, .slice a xs.length ca, .slice b ys.length cb] 32) (.cells #[.slice a0 e.length c0, .slice a1 x.length c1, .slice a2 y.length c2] 29) (.cells #[.slice a3 e2.length c3, .slice a4 x2.length c4, .slice a5 y2.length c5] 29) #[.slice none 0 0, .slice none 0 0, .slice none 0 0] 29
    replace X := X.alloc (.cells #[.slice none 0 0, .slice none 0 0, .slice none 0 0] 29)
    replace Y := Y.alloc (.cells #[.slice none 0 0, .slice none 0 0, .slice none 0 0] 29)
    replace Z := Z.alloc (.cells #[.slice none 0 0, .slice none 0 0, .slice none 0 0] 29)
    have HB : Hid (Below w.heap.size w ((((w.alloc (.cells #[.int .i64 wd, .int .i64 hi, .bool wb, .slice a xs.length ca, .slice b ys.length cb] 32)).alloc (.cells #[.slice a0 e.length c0, .slice a1 x.length c1, .slice a2 y.length c2] 29)).alloc (.cells #[.slice a3 e2.length c3, .slice a4 x2.length c4, .slice a5 y2.length c5] 29)).alloc (.cells #[.slice none 0 0, .slice none 0 0, .slice none 0 0] 29))) := Lib.hid (((((Below.refl w.heap.size w).alloc (by simp <;> omega) _).alloc (by simp <;> omega) _).alloc (by simp <;> omega) _).alloc (by simp <;> omega) _)
    go_enter Try.func29, Try.ntmps29
    go_wp2_with fail
    generalize ((((w.alloc (.cells #[.int .i64 wd, .int .i64 hi, .bool wb, .slice a xs.length ca, .slice b ys.length cb] 32)).alloc (.cells #[.slice a0 e.length c0, .slice a1 x.length c1, .slice a2 y.length c2] 29)).alloc (.cells #[.slice a3 e2.length c3, .slice a4 x2.length c4, .slice a5 y2.length c5] 29)).alloc (.cells #[.slice none 0 0, .slice none 0 0, .slice none 0 0] 29)) = u1 at *
    refine (specIs _ _ _ _ _ _ _ _ _ _ _ X (ha.later HB.out) (hb.later HB.out) hx hy).mono ?_
    rintro r u2 ⟨rfl, nq, hw⟩
    have q : Below u1.heap.size u1 u2 := by rw [hw]; exact below_drewN (Below.refl _ _) _
    clear hw
    replace X := X.later q
    replace Y := Y.later q
    replace Z := Z.later q
    replace R := R.later q
    replace HB := Lib.hid (HB.out.trans (q.mono HB.out.size))
    clear q
    rw [H_v.out]
    obtain ⟨Xc, Xf⟩ := X.open
    obtain ⟨Yc, Yf⟩ := Y.open
    obtain ⟨Zc, Zf⟩ := Z.open
    go_wp2_with fail
    refine (specFits _ _ _ _ _ _ _ _ _ _ _ _ _ _ _ _ _ _ _ _ _ X Y s1 s2 s3 s4 (h0.later HB.out) (h1.later HB.out) (h2.later HB.out) m0 m1 m2).mono ?_
    rintro r u3 ⟨rfl, nq, hw⟩
    have q : Below u2.heap.size u2 u3 := by rw [hw]; exact below_drewN (Below.refl _ _) _
    clear hw
    clear Xc Xf
    clear Yc Yf
    clear Zc Zf
    replace X := X.later q
    replace Y := Y.later q
    replace Z := Z.later q
    replace R := R.later q
    replace HB := Lib.hid (HB.out.trans (q.mono HB.out.size))
    clear q
    rw [H_f.out]
    obtain ⟨Xc, Xf⟩ := X.open
    obtain ⟨Yc, Yf⟩ := Y.open
    obtain ⟨Zc, Zf⟩ := Z.open
    go_wp2_with fail
    refine (specFits _ _ _ _ _ _ _ _ _ _ _ _ _ _ _ _ _ _ _ _ _ X Z s1 s2 s3 s4 (h3.later HB.out) (h4.later HB.out) (h5.later HB.out) m3 m4 m5).mono ?_
    rintro r u4 ⟨rfl, nq, hw⟩
    have q : Below u3.heap.size u3 u4 := by rw [hw]; exact below_drewN (Below.refl _ _) _
    clear hw
    clear Xc Xf
    clear Yc Yf
    clear Zc Zf
    replace X := X.later q
    replace Y := Y.later q
    replace Z := Z.later q
    replace R := R.later q
    replace HB := Lib.hid (HB.out.trans (q.mono HB.out.size))
    clear q
    rw [H_f2.out]
    obtain ⟨Rc, Rf⟩ := R.open
    go_wp2
    refine bodyPost_ret (v := .tuple #[.agg #[.slice none 0 0, .slice none 0 0, .slice none 0 0], .bool false]) (by simp [results, Try.results29, go_sem, Rc]) rfl ⟨none, none, none, 0, 0, 0, [], [], [], rfl, OwnField.none (((HB.out.setCell (p := ⟨w.heap.size + 1 + 1 + 1, 0, none⟩) (by first | omega | (simp <;> omega)) _).setCell (p := ⟨w.heap.size + 1 + 1 + 1, 1, none⟩) (by first | omega | (simp <;> omega)) _).setCell (p := ⟨w.heap.size + 1 + 1 + 1, 2, none⟩) (by first | omega | (simp <;> omega)) _)⟩
  have hfv : fieldB wd hi wb xs ys e x y = true := by unfold fieldB; rw [hv, hf]; rfl
  have hfw : fieldB wd hi wb xs ys e2 x2 y2 = true := by unfold fieldB; rw [hv, hf2]; rfl
  obtain ⟨p1, _, l0, l1, l2⟩ := field_parts hfv
  obtain ⟨_, _, l3, l4, l5⟩ := field_parts hfw
  obtain ⟨n, hn⟩ := Int.eq_ofNat_of_zero_le (show 0 ≤ wd * hi by omega)
  have E0 : e.length = n := by omega
  have E1 : x.length = n := by omega
  have E2 : y.length = n := by omega
  have E3 : e2.length = n := by omega
  have E4 : x2.length = n := by omega
  have E5 : y2.length = n := by omega
  have n256 : n ≤ 256 := by omega
  have n9 : 0 < n := by omega
  rcases hft : fitsB wd hi wb (repC (addC e e2)) (repC (addC x x2)) (repC (addC y y2)) with _ | _
  · skip
    have HR : Hid (addB wd hi wb xs ys e x y e2 x2 y2 = false) := Lib.hid (by rw [HSB.out, hv, hf, hf2, hft]; rfl)
    have HFI : Hid (∀ L0 L1 L2, Is L0 (addC e e2) → Is L1 (addC x x2) → Is L2 (addC y y2) → fitsB wd hi wb L0 L1 L2 = false) := Lib.hid (fun L0 L1 L2 i0 i1 i2 => by rw [fits_is i0 i1 i2, hft])
    have HE0 := Lib.hid E0
    obtain ⟨b0, o0, e_0, hc0⟩ := h0 0 _ (fvals_get (show 0 < e.length by omega))
    subst e_0; clear hc0
    have HE1 := Lib.hid E1
    obtain ⟨b1, o1, e_1, hc1⟩ := h1 0 _ (fvals_get (show 0 < x.length by omega))
    subst e_1; clear hc1
    have HE2 := Lib.hid E2
    obtain ⟨b2, o2, e_2, hc2⟩ := h2 0 _ (fvals_get (show 0 < y.length by omega))
    subst e_2; clear hc2
    have HE3 := Lib.hid E3
    obtain ⟨b3, o3, e_3, hc3⟩ := h3 0 _ (fvals_get (show 0 < e2.length by omega))
    subst e_3; clear hc3
    have HE4 := Lib.hid E4
    obtain ⟨b4, o4, e_4, hc4⟩ := h4 0 _ (fvals_get (show 0 < x2.length by omega))
    subst e_4; clear hc4
    have HE5 := Lib.hid E5
    obtain ⟨b5, o5, e_5, hc5⟩ := h5 0 _ (fvals_get (show 0 < y2.length by omega))
    subst e_5; clear hc5
    have HLS0 : Hid (∀ L, Is L (addC e e2) → L.length = n) := Lib.hid (fun L h => by have h1 := h.eq; have h2 := congrArg List.length h1; unfold addC at h2; rw [cl_length, List.length_zipWith] at h2; omega)
    have HLS1 : Hid (∀ L, Is L (addC x x2) → L.length = n) := Lib.hid (fun L h => by have h1 := h.eq; have h2 := congrArg List.length h1; unfold addC at h2; rw [cl_length, List.length_zipWith] at h2; omega)
    have HLS2 : Hid (∀ L, Is L (addC y y2) → L.length = n) := Lib.hid (fun L h => by have h1 := h.eq; have h2 := congrArg List.length h1; unfold addC at h2; rw [cl_length, List.length_zipWith] at h2; omega)
    rw [HR.out]; have H_v := Lib.hid hv; have H_f := Lib.hid hf; have H_f2 := Lib.hid hf2; clear hv hf hf2 hft hfv hfw p1 l0 l1 l2 l3 l4 l5 t1 t2 hn E0 E1 E2 E3 E4 E5
    have X := Blk.new w #[.int .i64 wd, .int .i64 hi, .bool wb, .slice a xs.length ca, .slice b ys.length cb] 32
    have Y := Blk.new1 w (.cells #[.int .i64 wd, .int .i64 hi, .bool wb, .slice a xs.length ca, .slice b ys.length cb] 32) #[.slice (some ⟨b0, o0, none⟩) e.length c0, .slice (some ⟨b1, o1, none⟩) x.length c1, .slice (some ⟨b2, o2, none⟩) y.length c2] 29
    replace X := X.alloc (.cells #[.slice (some ⟨b0, o0, none⟩) e.length c0, .slice (some ⟨b1, o1, none⟩) x.length c1, .slice (some ⟨b2, o2, none⟩) y.length c2] 29)
    have Z := Blk.new2 w (.cells #[.int .i64 wd, .int .i64 hi, .bool wb, .slice a xs.length ca, .slice b ys.length cb] 32) (.cells #[.slice (some ⟨b0, o0, none⟩) e.length c0, .slice (some ⟨b1, o1, none⟩) x.length c1, .slice (some ⟨b2, o2, none⟩) y.length c2] 29) #[.slice (some ⟨b3, o3, none⟩) e2.length c3, .slice (some ⟨b4, o4, none⟩) x2.length c4, .slice (some ⟨b5, o5, none⟩) y2.length c5] 29
    replace X := X.alloc (.cells #[.slice (some ⟨b3, o3, none⟩) e2.length c3, .slice (some ⟨b4, o4, none⟩) x2.length c4, .slice (some ⟨b5, o5, none⟩) y2.length c5] 29)
    replace Y := Y.alloc (.cells #[.slice (some ⟨b3, o3, none⟩) e2.length c3, .slice (some ⟨b4, o4, none⟩) x2.length c4, .slice (some ⟨b5, o5, none⟩) y2.length c5] 29)
    have R := Blk.new3 w (.cells #[.int .i64 wd, .int .i64 hi, .bool wb, .slice a xs.length ca, .slice b ys.length cb] 32) (.cells #[.slice (some ⟨b0, o0, none⟩) e.length c0, .slice (some ⟨b1, o1, none⟩) x.length c1, .slice (some ⟨b2, o2, none⟩) y.length c2] 29) (.cells #[.slice (some ⟨b3, o3, none⟩) e2.length c3, .slice (some ⟨b4, o4, none⟩) x2.length c4, .slice (some ⟨b5, o5, none⟩) y2.length c5] 29) #[.slice none 0 0, .slice none 0 0, .slice none 0 0] 29
    replace X := X.alloc (.cells #[.slice none 0 0, .slice none 0 0, .slice none 0 0] 29)
    replace Y := Y.alloc (.cells #[.slice none 0 0, .slice none 0 0, .slice none 0 0] 29)
    replace Z := Z.alloc (.cells #[.slice none 0 0, .slice none 0 0, .slice none 0 0] 29)
    have HB : Hid (Below w.heap.size w ((((w.alloc (.cells #[.int .i64 wd, .int .i64 hi, .bool wb, .slice a xs.length ca, .slice b ys.length cb] 32)).alloc (.cells #[.slice (some ⟨b0, o0, none⟩) e.length c0, .slice (some ⟨b1, o1, none⟩) x.length c1, .slice (some ⟨b2, o2, none⟩) y.length c2] 29)).alloc (.cells #[.slice (some ⟨b3, o3, none⟩) e2.length c3, .slice (some ⟨b4, o4, none⟩) x2.length c4, .slice (some ⟨b5, o5, none⟩) y2.length c5] 29)).alloc (.cells #[.slice none 0 0, .slice none 0 0, .slice none 0 0] 29))) := Lib.hid (((((Below.refl w.heap.size w).alloc (by simp <;> omega) _).alloc (by simp <;> omega) _).alloc (by simp <;> omega) _).alloc (by simp <;> omega) _)
    go_enter Try.func29, Try.ntmps29
    go_wp2_with fail
    generalize ((((w.alloc (.cells #[.int .i64 wd, .int .i64 hi, .bool wb, .slice a xs.length ca, .slice b ys.length cb] 32)).alloc (.cells #[.slice (some ⟨b0, o0, none⟩) e.length c0, .slice (some ⟨b1, o1, none⟩) x.length c1, .slice (some ⟨b2, o2, none⟩) y.length c2] 29)).alloc (.cells #[.slice (some ⟨b3, o3, none⟩) e2.length c3, .slice (some ⟨b4, o4, none⟩) x2.length c4, .slice (some ⟨b5, o5, none⟩) y2.length c5] 29)).alloc (.cells #[.slice none 0 0, .slice none 0 0, .slice none 0 0] 29)) = u1 at *
    refine (specIs _ _ _ _ _ _ _ _ _ _ _ X (ha.later HB.out) (hb.later HB.out) hx hy).mono ?_
    rintro r u2 ⟨rfl, nq, hw⟩
    have q : Below u1.heap.size u1 u2 := by rw [hw]; exact below_drewN (Below.refl _ _) _
    clear hw
    replace X := X.later q
    replace Y := Y.later q
    replace Z := Z.later q
    replace R := R.later q
    replace HB := Lib.hid (HB.out.trans (q.mono HB.out.size))
    clear q
    rw [H_v.out]
    obtain ⟨Xc, Xf⟩ := X.open
    obtain ⟨Yc, Yf⟩ := Y.open
    obtain ⟨Zc, Zf⟩ := Z.open
    go_wp2_with fail
    refine (specFits _ _ _ _ _ _ _ _ _ _ _ _ _ _ _ _ _ _ _ _ _ X Y s1 s2 s3 s4 (h0.later HB.out) (h1.later HB.out) (h2.later HB.out) m0 m1 m2).mono ?_
    rintro r u3 ⟨rfl, nq, hw⟩
    have q : Below u2.heap.size u2 u3 := by rw [hw]; exact below_drewN (Below.refl _ _) _
    clear hw
    clear Xc Xf
    clear Yc Yf
    clear Zc Zf
    replace X := X.later q
    replace Y := Y.later q
    replace Z := Z.later q
    replace R := R.later q
    replace HB := Lib.hid (HB.out.trans (q.mono HB.out.size))
    clear q
    rw [H_f.out]
    obtain ⟨Xc, Xf⟩ := X.open
    obtain ⟨Yc, Yf⟩ := Y.open
    obtain ⟨Zc, Zf⟩ := Z.open
    go_wp2_with fail
    refine (specFits _ _ _ _ _ _ _ _ _ _ _ _ _ _ _ _ _ _ _ _ _ X Z s1 s2 s3 s4 (h3.later HB.out) (h4.later HB.out) (h5.later HB.out) m3 m4 m5).mono ?_
    rintro r u4 ⟨rfl, nq, hw⟩
    have q : Below u3.heap.size u3 u4 := by rw [hw]; exact below_drewN (Below.refl _ _) _
    clear hw
    clear Xc Xf
    clear Yc Yf
    clear Zc Zf
    replace X := X.later q
    replace Y := Y.later q
    replace Z := Z.later q
    replace R := R.later q
    replace HB := Lib.hid (HB.out.trans (q.mono HB.out.size))
    clear q
    rw [H_f2.out]
    have zR := R.lt; have zB := HB.out.size
    have ZN : ∀ {u : World}, Blk u (w.heap.size + 1 + 1) #[.slice (some ⟨b3, o3, none⟩) e2.length c3, .slice (some ⟨b4, o4, none⟩) x2.length c4, .slice (some ⟨b5, o5, none⟩) y2.length c5] 29 → Blk u (w.heap.size + 1 + 1) #[.slice (some ⟨b3, o3, none⟩) n c3, .slice (some ⟨b4, o4, none⟩) n c4, .slice (some ⟨b5, o5, none⟩) n c5] 29 := fun h => by rw [HE3.out, HE4.out, HE5.out] at h; exact h
    obtain ⟨Xc, Xf⟩ := X.open
    obtain ⟨Yc, Yf⟩ := Y.open
    obtain ⟨Zc, Zf⟩ := Z.open
    go_wp2_with fail
    refine (specSum (w.heap.size + 1) (w.heap.size + 1 + 1) n _ _ _ _ _ _ _ _ _ _ _ _ _ _ _ _ _ _ _ _ _ _ _ _ _ Y (ZN Z) (h0.later HB.out) (h1.later HB.out) (h2.later HB.out) (h3.later HB.out) (h4.later HB.out) (h5.later HB.out) q0 q1 q2 HE0.out HE1.out HE2.out HE3.out HE4.out HE5.out n9 n256).mono ?_
    rintro r u5 ⟨g0, g1, g2, k0, k1, k2, L0, L1, L2, rfl, w0, w1, w2, i0, i1, i2, g01, g12, q⟩
    clear Xc Xf
    clear Yc Yf
    clear Zc Zf
    replace X := X.later q
    replace Y := Y.later q
    replace Z := Z.later q
    replace R := R.later q
    replace HB := Lib.hid (HB.out.trans (q.mono HB.out.size))
    clear q
    clear ZN
    have zg0 := (w0.span _ rfl); have zg1 := (w1.span _ rfl); have zg2 := (w2.span _ rfl); dsimp only at zg0 zg1 zg2
    have O0 := Lib.hid (w0.lower (C := w.heap.size) (by omega)); clear w0
    have O1 := Lib.hid (w1.lower (C := w.heap.size) (by omega)); clear w1
    have O2 := Lib.hid (w2.lower (C := w.heap.size) (by omega)); clear w2
    have e0 : L0.length = n := HLS0.out _ i0
    have e1 : L1.length = n := HLS1.out _ i1
    have e2 : L2.length = n := HLS2.out _ i2
    go_wp2_with fail
    have CG := specGiveNo w.heap.size wd hi wb a b ca cb xs ys (some ⟨g0, 0, none⟩) (some ⟨g1, 0, none⟩) (some ⟨g2, 0, none⟩) k0 k1 k2 L0 L1 L2 u5 X s1 s2 s3 s4 O0.out.row O1.out.row O2.out.row (few_max i0) (few_max i1) (few_max i2) (HFI.out L0 L1 L2 i0 i1 i2)
    rw [e0, e1, e2] at CG
    refine CG.mono ?_
    rintro r w9 ⟨rfl, q⟩
    clear CG
    replace R := R.later q; replace O0 := Lib.hid (O0.out.later q); replace O1 := Lib.hid (O1.out.later q); replace O2 := Lib.hid (O2.out.later q); replace HB := Lib.hid (HB.out.trans (q.mono HB.out.size))
    clear q
    obtain ⟨Rc, Rf⟩ := R.open
    go_wp2
    refine bodyPost_ret (v := .tuple #[.agg #[.slice none 0 0, .slice none 0 0, .slice none 0 0], .bool false]) (by simp [results, Try.results29, go_sem, Rc]) rfl ⟨none, none, none, 0, 0, 0, [], [], [], rfl, OwnField.none (((HB.out.setCell (p := ⟨w.heap.size + 1 + 1 + 1, 0, none⟩) (by first | omega | (simp <;> omega)) _).setCell (p := ⟨w.heap.size + 1 + 1 + 1, 1, none⟩) (by first | omega | (simp <;> omega)) _).setCell (p := ⟨w.heap.size + 1 + 1 + 1, 2, none⟩) (by first | omega | (simp <;> omega)) _)⟩
  · skip
    have HR : Hid (addB wd hi wb xs ys e x y e2 x2 y2 = true) := Lib.hid (by rw [HSB.out, hv, hf, hf2, hft]; rfl)
    have HFI : Hid (∀ L0 L1 L2, Is L0 (addC e e2) → Is L1 (addC x x2) → Is L2 (addC y y2) → fitsB wd hi wb L0 L1 L2 = true) := Lib.hid (fun L0 L1 L2 i0 i1 i2 => by rw [fits_is i0 i1 i2, hft])
    have HE0 := Lib.hid E0
    obtain ⟨b0, o0, e_0, hc0⟩ := h0 0 _ (fvals_get (show 0 < e.length by omega))
    subst e_0; clear hc0
    have HE1 := Lib.hid E1
    obtain ⟨b1, o1, e_1, hc1⟩ := h1 0 _ (fvals_get (show 0 < x.length by omega))
    subst e_1; clear hc1
    have HE2 := Lib.hid E2
    obtain ⟨b2, o2, e_2, hc2⟩ := h2 0 _ (fvals_get (show 0 < y.length by omega))
    subst e_2; clear hc2
    have HE3 := Lib.hid E3
    obtain ⟨b3, o3, e_3, hc3⟩ := h3 0 _ (fvals_get (show 0 < e2.length by omega))
    subst e_3; clear hc3
    have HE4 := Lib.hid E4
    obtain ⟨b4, o4, e_4, hc4⟩ := h4 0 _ (fvals_get (show 0 < x2.length by omega))
    subst e_4; clear hc4
    have HE5 := Lib.hid E5
    obtain ⟨b5, o5, e_5, hc5⟩ := h5 0 _ (fvals_get (show 0 < y2.length by omega))
    subst e_5; clear hc5
    have HLS0 : Hid (∀ L, Is L (addC e e2) → L.length = n) := Lib.hid (fun L h => by have h1 := h.eq; have h2 := congrArg List.length h1; unfold addC at h2; rw [cl_length, List.length_zipWith] at h2; omega)
    have HLS1 : Hid (∀ L, Is L (addC x x2) → L.length = n) := Lib.hid (fun L h => by have h1 := h.eq; have h2 := congrArg List.length h1; unfold addC at h2; rw [cl_length, List.length_zipWith] at h2; omega)
    have HLS2 : Hid (∀ L, Is L (addC y y2) → L.length = n) := Lib.hid (fun L h => by have h1 := h.eq; have h2 := congrArg List.length h1; unfold addC at h2; rw [cl_length, List.length_zipWith] at h2; omega)
    rw [HR.out]; have H_v := Lib.hid hv; have H_f := Lib.hid hf; have H_f2 := Lib.hid hf2; clear hv hf hf2 hft hfv hfw p1 l0 l1 l2 l3 l4 l5 t1 t2 hn E0 E1 E2 E3 E4 E5
    have X := Blk.new w #[.int .i64 wd, .int .i64 hi, .bool wb, .slice a xs.length ca, .slice b ys.length cb] 32
    have Y := Blk.new1 w (.cells #[.int .i64 wd, .int .i64 hi, .bool wb, .slice a xs.length ca, .slice b ys.length cb] 32) #[.slice (some ⟨b0, o0, none⟩) e.length c0, .slice (some ⟨b1, o1, none⟩) x.length c1, .slice (some ⟨b2, o2, none⟩) y.length c2] 29
    replace X := X.alloc (.cells #[.slice (some ⟨b0, o0, none⟩) e.length c0, .slice (some ⟨b1, o1, none⟩) x.length c1, .slice (some ⟨b2, o2, none⟩) y.length c2] 29)
    have Z := Blk.new2 w (.cells #[.int .i64 wd, .int .i64 hi, .bool wb, .slice a xs.length ca, .slice b ys.length cb] 32) (.cells #[.slice (some ⟨b0, o0, none⟩) e.length c0, .slice (some ⟨b1, o1, none⟩) x.length c1, .slice (some ⟨b2, o2, none⟩) y.length c2] 29) #[.slice (some ⟨b3, o3, none⟩) e2.length c3, .slice (some ⟨b4, o4, none⟩) x2.length c4, .slice (some ⟨b5, o5, none⟩) y2.length c5] 29
    replace X := X.alloc (.cells #[.slice (some ⟨b3, o3, none⟩) e2.length c3, .slice (some ⟨b4, o4, none⟩) x2.length c4, .slice (some ⟨b5, o5, none⟩) y2.length c5] 29)
    replace Y := Y.alloc (.cells #[.slice (some ⟨b3, o3, none⟩) e2.length c3, .slice (some ⟨b4, o4, none⟩) x2.length c4, .slice (some ⟨b5, o5, none⟩) y2.length c5] 29)
    have R := Blk.new3 w (.cells #[.int .i64 wd, .int .i64 hi, .bool wb, .slice a xs.length ca, .slice b ys.length cb] 32) (.cells #[.slice (some ⟨b0, o0, none⟩) e.length c0, .slice (some ⟨b1, o1, none⟩) x.length c1, .slice (some ⟨b2, o2, none⟩) y.length c2] 29) (.cells #[.slice (some ⟨b3, o3, none⟩) e2.length c3, .slice (some ⟨b4, o4, none⟩) x2.length c4, .slice (some ⟨b5, o5, none⟩) y2.length c5] 29) #[.slice none 0 0, .slice none 0 0, .slice none 0 0] 29
    replace X := X.alloc (.cells #[.slice none 0 0, .slice none 0 0, .slice none 0 0] 29)
    replace Y := Y.alloc (.cells #[.slice none 0 0, .slice none 0 0, .slice none 0 0] 29)
    replace Z := Z.alloc (.cells #[.slice none 0 0, .slice none 0 0, .slice none 0 0] 29)
    have HB : Hid (Below w.heap.size w ((((w.alloc (.cells #[.int .i64 wd, .int .i64 hi, .bool wb, .slice a xs.length ca, .slice b ys.length cb] 32)).alloc (.cells #[.slice (some ⟨b0, o0, none⟩) e.length c0, .slice (some ⟨b1, o1, none⟩) x.length c1, .slice (some ⟨b2, o2, none⟩) y.length c2] 29)).alloc (.cells #[.slice (some ⟨b3, o3, none⟩) e2.length c3, .slice (some ⟨b4, o4, none⟩) x2.length c4, .slice (some ⟨b5, o5, none⟩) y2.length c5] 29)).alloc (.cells #[.slice none 0 0, .slice none 0 0, .slice none 0 0] 29))) := Lib.hid (((((Below.refl w.heap.size w).alloc (by simp <;> omega) _).alloc (by simp <;> omega) _).alloc (by simp <;> omega) _).alloc (by simp <;> omega) _)
    go_enter Try.func29, Try.ntmps29
    go_wp2_with fail
    generalize ((((w.alloc (.cells #[.int .i64 wd, .int .i64 hi, .bool wb, .slice a xs.length ca, .slice b ys.length cb] 32)).alloc (.cells #[.slice (some ⟨b0, o0, none⟩) e.length c0, .slice (some ⟨b1, o1, none⟩) x.length c1, .slice (some ⟨b2, o2, none⟩) y.length c2] 29)).alloc (.cells #[.slice (some ⟨b3, o3, none⟩) e2.length c3, .slice (some ⟨b4, o4, none⟩) x2.length c4, .slice (some ⟨b5, o5, none⟩) y2.length c5] 29)).alloc (.cells #[.slice none 0 0, .slice none 0 0, .slice none 0 0] 29)) = u1 at *
    refine (specIs _ _ _ _ _ _ _ _ _ _ _ X (ha.later HB.out) (hb.later HB.out) hx hy).mono ?_
    rintro r u2 ⟨rfl, nq, hw⟩
    have q : Below u1.heap.size u1 u2 := by rw [hw]; exact below_drewN (Below.refl _ _) _
    clear hw
    replace X := X.later q
    replace Y := Y.later q
    replace Z := Z.later q
    replace R := R.later q
    replace HB := Lib.hid (HB.out.trans (q.mono HB.out.size))
    clear q
    rw [H_v.out]
    obtain ⟨Xc, Xf⟩ := X.open
    obtain ⟨Yc, Yf⟩ := Y.open
    obtain ⟨Zc, Zf⟩ := Z.open
    go_wp2_with fail
    refine (specFits _ _ _ _ _ _ _ _ _ _ _ _ _ _ _ _ _ _ _ _ _ X Y s1 s2 s3 s4 (h0.later HB.out) (h1.later HB.out) (h2.later HB.out) m0 m1 m2).mono ?_
    rintro r u3 ⟨rfl, nq, hw⟩
    have q : Below u2.heap.size u2 u3 := by rw [hw]; exact below_drewN (Below.refl _ _) _
    clear hw
    clear Xc Xf
    clear Yc Yf
    clear Zc Zf
    replace X := X.later q
    replace Y := Y.later q
    replace Z := Z.later q
    replace R := R.later q
    replace HB := Lib.hid (HB.out.trans (q.mono HB.out.size))
    clear q
    rw [H_f.out]
    obtain ⟨Xc, Xf⟩ := X.open
    obtain ⟨Yc, Yf⟩ := Y.open
    obtain ⟨Zc, Zf⟩ := Z.open
    go_wp2_with fail
    refine (specFits _ _ _ _ _ _ _ _ _ _ _ _ _ _ _ _ _ _ _ _ _ X Z s1 s2 s3 s4 (h3.later HB.out) (h4.later HB.out) (h5.later HB.out) m3 m4 m5).mono ?_
    rintro r u4 ⟨rfl, nq, hw⟩
    have q : Below u3.heap.size u3 u4 := by rw [hw]; exact below_drewN (Below.refl _ _) _
    clear hw
    clear Xc Xf
    clear Yc Yf
    clear Zc Zf
    replace X := X.later q
    replace Y := Y.later q
    replace Z := Z.later q
    replace R := R.later q
    replace HB := Lib.hid (HB.out.trans (q.mono HB.out.size))
    clear q
    rw [H_f2.out]
    have zR := R.lt; have zB := HB.out.size
    have ZN : ∀ {u : World}, Blk u (w.heap.size + 1 + 1) #[.slice (some ⟨b3, o3, none⟩) e2.length c3, .slice (some ⟨b4, o4, none⟩) x2.length c4, .slice (some ⟨b5, o5, none⟩) y2.length c5] 29 → Blk u (w.heap.size + 1 + 1) #[.slice (some ⟨b3, o3, none⟩) n c3, .slice (some ⟨b4, o4, none⟩) n c4, .slice (some ⟨b5, o5, none⟩) n c5] 29 := fun h => by rw [HE3.out, HE4.out, HE5.out] at h; exact h
    obtain ⟨Xc, Xf⟩ := X.open
    obtain ⟨Yc, Yf⟩ := Y.open
    obtain ⟨Zc, Zf⟩ := Z.open
    go_wp2_with fail
    refine (specSum (w.heap.size + 1) (w.heap.size + 1 + 1) n _ _ _ _ _ _ _ _ _ _ _ _ _ _ _ _ _ _ _ _ _ _ _ _ _ Y (ZN Z) (h0.later HB.out) (h1.later HB.out) (h2.later HB.out) (h3.later HB.out) (h4.later HB.out) (h5.later HB.out) q0 q1 q2 HE0.out HE1.out HE2.out HE3.out HE4.out HE5.out n9 n256).mono ?_
    rintro r u5 ⟨g0, g1, g2, k0, k1, k2, L0, L1, L2, rfl, w0, w1, w2, i0, i1, i2, g01, g12, q⟩
    clear Xc Xf
    clear Yc Yf
    clear Zc Zf
    replace X := X.later q
    replace Y := Y.later q
    replace Z := Z.later q
    replace R := R.later q
    replace HB := Lib.hid (HB.out.trans (q.mono HB.out.size))
    clear q
    clear ZN
    have zg0 := (w0.span _ rfl); have zg1 := (w1.span _ rfl); have zg2 := (w2.span _ rfl); dsimp only at zg0 zg1 zg2
    have O0 := Lib.hid (w0.lower (C := w.heap.size) (by omega)); clear w0
    have O1 := Lib.hid (w1.lower (C := w.heap.size) (by omega)); clear w1
    have O2 := Lib.hid (w2.lower (C := w.heap.size) (by omega)); clear w2
    have e0 : L0.length = n := HLS0.out _ i0
    have e1 : L1.length = n := HLS1.out _ i1
    have e2 : L2.length = n := HLS2.out _ i2
    go_wp2_with fail
    have CG := specGiveYes w.heap.size wd hi wb a b ca cb xs ys (some ⟨g0, 0, none⟩) (some ⟨g1, 0, none⟩) (some ⟨g2, 0, none⟩) k0 k1 k2 L0 L1 L2 u5 X s1 s2 s3 s4 O0.out.row O1.out.row O2.out.row (few_max i0) (few_max i1) (few_max i2) (HFI.out L0 L1 L2 i0 i1 i2)
    rw [e0, e1, e2] at CG
    refine CG.mono ?_
    rintro r w9 ⟨rfl, q⟩
    clear CG
    replace R := R.later q; replace O0 := Lib.hid (O0.out.later q); replace O1 := Lib.hid (O1.out.later q); replace O2 := Lib.hid (O2.out.later q); replace HB := Lib.hid (HB.out.trans (q.mono HB.out.size))
    clear q
    obtain ⟨Rc, Rf⟩ := R.open
    go_wp2
    refine bodyPost_ret (v := .tuple #[.agg #[.slice (some ⟨g0, 0, none⟩) n k0, .slice (some ⟨g1, 0, none⟩) n k1, .slice (some ⟨g2, 0, none⟩) n k2], .bool true]) (by simp [results, Try.results29, go_sem, Rc]) rfl ⟨some ⟨g0, 0, none⟩, some ⟨g1, 0, none⟩, some ⟨g2, 0, none⟩, k0, k1, k2, L0, L1, L2, by rw [e0, e1, e2], ⟨(((O0.out.set (p := ⟨w.heap.size + 1 + 1 + 1, 0, none⟩) (ne_block (h := w.heap.size + 1 + 1 + 1) (by omega)) _).set (p := ⟨w.heap.size + 1 + 1 + 1, 1, none⟩) (ne_block (h := w.heap.size + 1 + 1 + 1) (by omega)) _).set (p := ⟨w.heap.size + 1 + 1 + 1, 2, none⟩) (ne_block (h := w.heap.size + 1 + 1 + 1) (by omega)) _), (((O1.out.set (p := ⟨w.heap.size + 1 + 1 + 1, 0, none⟩) (ne_block (h := w.heap.size + 1 + 1 + 1) (by omega)) _).set (p := ⟨w.heap.size + 1 + 1 + 1, 1, none⟩) (ne_block (h := w.heap.size + 1 + 1 + 1) (by omega)) _).set (p := ⟨w.heap.size + 1 + 1 + 1, 2, none⟩) (ne_block (h := w.heap.size + 1 + 1 + 1) (by omega)) _), (((O2.out.set (p := ⟨w.heap.size + 1 + 1 + 1, 0, none⟩) (ne_block (h := w.heap.size + 1 + 1 + 1) (by omega)) _).set (p := ⟨w.heap.size + 1 + 1 + 1, 1, none⟩) (ne_block (h := w.heap.size + 1 + 1 + 1) (by omega)) _).set (p := ⟨w.heap.size + 1 + 1 + 1, 2, none⟩) (ne_block (h := w.heap.size + 1 + 1 + 1) (by omega)) _), i0, i1, i2, (((HB.out.setCell (p := ⟨w.heap.size + 1 + 1 + 1, 0, none⟩) (by first | omega | (simp <;> omega)) _).setCell (p := ⟨w.heap.size + 1 + 1 + 1, 1, none⟩) (by first | omega | (simp <;> omega)) _).setCell (p := ⟨w.heap.size + 1 + 1 + 1, 2, none⟩) (by first | omega | (simp <;> omega)) _)⟩⟩

end Go.Proofs.Ytkcododhfliobab
