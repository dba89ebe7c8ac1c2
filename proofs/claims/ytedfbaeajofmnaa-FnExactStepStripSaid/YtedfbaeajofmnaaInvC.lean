/- Copies of lists of numbers that are made in any order. Conditions: none beyond those of each theorem. -/
import Derived.Test.YtedfbaeajofmnaaInv
import Derived.Test.YtedfbaeajofmnaaBu5
import Derived.Laws.Append
namespace Go.Proofs.Ytedfbaeajofmnaa
open Go Ieee Go.RowKit
set_option linter.unusedVariables false
set_option linter.unusedSimpArgs false

/-- an empty list that was just written -/
def NilS (v : Value) : Prop := ∃ g, v = .slice (some ⟨g, 0, none⟩) 0 0

theorem inv_copyF {ops : Array Oper} {Q : Exit → Act → World → Prop} {S : World → Prop} {K2 : Act → World → Prop} {a : Act} {w : World} {o : Oper} (hgd : o.guard = none) (s x : Operand)
    (ho : o.op = .call { callee := .builtin .append, args := #[s, x], argTypes := #[22, 22] }) (hs : NilS (a.eval s)) (b1 o1 n c : Nat) (z : List Nat) (hx : a.eval x = .slice (some ⟨b1, o1, none⟩) n c) (hr : RowV w (some ⟨b1, o1, none⟩) (fvals z)) (hl : z.length = n) (n0 : 0 < n) (n256 : n ≤ 256)
    (h : ∀ k w1, Below w.heap.size w w1 → OwnV w1 w.heap.size (some ⟨w.heap.size, 0, none⟩) (fvals z) → w.heap.size < w1.heap.size → S w1 ∧ K2 (a.put o.dst (.slice (some ⟨w.heap.size, 0, none⟩) n k)) w1) : wpList Try.prog ops (heldPost S Q K2) [o] a w := by
  obtain ⟨g, hs⟩ := hs
  obtain ⟨i0, hi, hz0, hz1, hz2⟩ := info_parts Try.infoF32
  have hrun := run_append_grow (P := Try.prog) (w := w) 22 o.type 102 i0 (.float .f32 0) Try.underlying22 hi hz0 ⟨g, 0, none⟩ 0 0 [] (by simp) (by simp) ⟨b1, o1, none⟩ n c (fvals z) (by rw [fvals_length, hl, hz1, Nat.mul_one]) (row_news hr) (by omega) (by omega) (by rw [hz2, nextslicecap_zero (by omega)]; omega)
  refine wpList_plain hgd fun K hK => ?_
  unfold Oper.wp execOp
  simp only [ho, resolve, invoke, builtin, Sem.run_bind, Sem.run_pure, Result.andThen_ok, List.map_toArray, List.map_cons, List.map_nil, hs, hx, hrun]
  rw [Nat.zero_add]
  refine hK _ _ ?_
  have q : Below w.heap.size w (w.drew.alloc (.cells ([].toArray ++ (fvals z).toArray ++ Builtin.zeroCells (Value.float FloatKind.f32 0).cells (grownCap w n 0 102 - n)) 102)) := (below_drew w).trans (below_new w.drew _)
  refine h _ _ q ?_ ?_
  · refine .inr ⟨w.heap.size, _, 102, rfl, Nat.le_refl _, Blk.new w.drew _ 102, fun i u hu => ?_⟩
    have hi : i < (fvals z).length := (List.getElem?_eq_some_iff.1 hu).1
    rw [Array.getElem?_append_left (by simpa using hi)]
    simpa using hu
  · simp [World.alloc]

end Go.Proofs.Ytedfbaeajofmnaa
