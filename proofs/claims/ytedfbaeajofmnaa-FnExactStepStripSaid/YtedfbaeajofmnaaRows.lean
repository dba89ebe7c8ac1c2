/-
  No cell of these rows narrows 'for every input' (looked for: loops, veiled, ifaces, maps, wideKeys, modest, calm, conditions, laid).
  DERIVED. THE GIVEN ROWS OF THIS SEAT. 9 by the template 'for every input the law returns true; each argument reads behind the call as it read before'; 0 by the template 'total and deterministic' (their statements: YtedfbaeajofmnaaTotals.lean).
  GIVEN WITH THE SEED: the statements are not yours to turn. If you find one false, say at which input.
  Laid BY PROGRAM, IN A SANDBOX (cutbox-rows.mjs): the forced cells as the released guide's own fill.sh prints them over the translation d62feb85b893b1b8… (all of the seat's roots in one cut). By AI agents, Wed Nov 11 2026. No macro, syntax, notation, axiom, sorry.
-/
import Derived.Test.YtedfbaeajofmnaaChecked
import GoSem.Claim
import GoSem.ClaimJoined
import GoSem.ClaimMapViews
import Derived.JoinedTies
import Derived.KernelRfl
namespace Go.Proofs.Ytedfbaeajofmnaa
/- THE CELL 'sum', in the pinned program and in every row, IS THE sha256 OF THE DUMP (.gsa) THAT YtedfbaeajofmnaaProg.lean LOADS. Nothing in Lean hashes anything: it is a label: what it is worth is what the hold of that sum in a sandbox is worth. -/
noncomputable def Try.pinned : Pinned := { name := "ytedfbaeajofmnaa", sum := "d62feb85b893b1b8c5aa4a9bf40f0e130666dc02aaa5b98c849560584f1d0484", checked := Try.checked }
namespace Rows
def none {H : Type} : Left H := { results := [], args := [] }

/-- 'laws.FnExactIsStrip': WHATEVER THE INPUT: true; the input reads as it did. -/
def fnExactIsStripSpec : ChangeSpec := { name := "fnExactIsStrip", fn := fun _ => fun
  | [d1, d2] => { results := [.lit (.bool true)], args := [d1, d2] }
  | _ => none }
def fnExactIsStripRow : OpenClaim := { program := "ytedfbaeajofmnaa", sum := "d62feb85b893b1b8c5aa4a9bf40f0e130666dc02aaa5b98c849560584f1d0484", func := "loop.example/g01201/laws.FnExactIsStrip", spec := "fnExactIsStrip", unfollowed := true, recurses := true, apart := false }
def FnExactIsStripSaid : Prop := fnExactIsStripRow.holds Try.pinned (OpenSpec.ofChange fnExactIsStripSpec)

/-- ITS FALSE NEIGHBOUR: 'it returns false'. Refute it at one input. -/
def fnExactIsStripWrong : ChangeSpec := { name := "fnExactIsStrip", fn := fun _ => fun
  | [d1, d2] => { results := [.lit (.bool false)], args := [d1, d2] }
  | _ => none }
def FnExactIsStripWrongFalsely : Prop := fnExactIsStripRow.holds Try.pinned (OpenSpec.ofChange fnExactIsStripWrong)

/-- 'laws.FnExactCutStrip': WHATEVER THE INPUT: true; the input reads as it did. -/
def fnExactCutStripSpec : ChangeSpec := { name := "fnExactCutStrip", fn := fun _ => fun
  | [d1, d2, d3] => { results := [.lit (.bool true)], args := [d1, d2, d3] }
  | _ => none }
def fnExactCutStripRow : OpenClaim := { program := "ytedfbaeajofmnaa", sum := "d62feb85b893b1b8c5aa4a9bf40f0e130666dc02aaa5b98c849560584f1d0484", func := "loop.example/g01201/laws.FnExactCutStrip", spec := "fnExactCutStrip", unfollowed := true, recurses := true, apart := false }
def FnExactCutStripSaid : Prop := fnExactCutStripRow.holds Try.pinned (OpenSpec.ofChange fnExactCutStripSpec)

/-- ITS FALSE NEIGHBOUR: 'it returns false'. Refute it at one input. -/
def fnExactCutStripWrong : ChangeSpec := { name := "fnExactCutStrip", fn := fun _ => fun
  | [d1, d2, d3] => { results := [.lit (.bool false)], args := [d1, d2, d3] }
  | _ => none }
def FnExactCutStripWrongFalsely : Prop := fnExactCutStripRow.holds Try.pinned (OpenSpec.ofChange fnExactCutStripWrong)

/-- 'laws.FnExactStripsOf': WHATEVER THE INPUT: true; the input reads as it did. -/
def fnExactStripsOfSpec : ChangeSpec := { name := "fnExactStripsOf", fn := fun _ => fun
  | [d1, d2] => { results := [.lit (.bool true)], args := [d1, d2] }
  | _ => none }
def fnExactStripsOfRow : OpenClaim := { program := "ytedfbaeajofmnaa", sum := "d62feb85b893b1b8c5aa4a9bf40f0e130666dc02aaa5b98c849560584f1d0484", func := "loop.example/g01201/laws.FnExactStripsOf", spec := "fnExactStripsOf", unfollowed := true, recurses := true, apart := false }
def FnExactStripsOfSaid : Prop := fnExactStripsOfRow.holds Try.pinned (OpenSpec.ofChange fnExactStripsOfSpec)

/-- ITS FALSE NEIGHBOUR: 'it returns false'. Refute it at one input. -/
def fnExactStripsOfWrong : ChangeSpec := { name := "fnExactStripsOf", fn := fun _ => fun
  | [d1, d2] => { results := [.lit (.bool false)], args := [d1, d2] }
  | _ => none }
def FnExactStripsOfWrongFalsely : Prop := fnExactStripsOfRow.holds Try.pinned (OpenSpec.ofChange fnExactStripsOfWrong)

/-- 'laws.FnExactHaloRows': WHATEVER THE INPUT: true; the input reads as it did. -/
def fnExactHaloRowsSpec : ChangeSpec := { name := "fnExactHaloRows", fn := fun _ => fun
  | [d1, d2] => { results := [.lit (.bool true)], args := [d1, d2] }
  | _ => none }
def fnExactHaloRowsRow : OpenClaim := { program := "ytedfbaeajofmnaa", sum := "d62feb85b893b1b8c5aa4a9bf40f0e130666dc02aaa5b98c849560584f1d0484", func := "loop.example/g01201/laws.FnExactHaloRows", spec := "fnExactHaloRows", unfollowed := true, recurses := true, apart := false }
def FnExactHaloRowsSaid : Prop := fnExactHaloRowsRow.holds Try.pinned (OpenSpec.ofChange fnExactHaloRowsSpec)

/-- ITS FALSE NEIGHBOUR: 'it returns false'. Refute it at one input. -/
def fnExactHaloRowsWrong : ChangeSpec := { name := "fnExactHaloRows", fn := fun _ => fun
  | [d1, d2] => { results := [.lit (.bool false)], args := [d1, d2] }
  | _ => none }
def FnExactHaloRowsWrongFalsely : Prop := fnExactHaloRowsRow.holds Try.pinned (OpenSpec.ofChange fnExactHaloRowsWrong)

/-- 'laws.FnExactPutStrip': WHATEVER THE INPUT: true; the input reads as it did. -/
def fnExactPutStripSpec : ChangeSpec := { name := "fnExactPutStrip", fn := fun _ => fun
  | [d1, d2, d3, d4] => { results := [.lit (.bool true)], args := [d1, d2, d3, d4] }
  | _ => none }
def fnExactPutStripRow : OpenClaim := { program := "ytedfbaeajofmnaa", sum := "d62feb85b893b1b8c5aa4a9bf40f0e130666dc02aaa5b98c849560584f1d0484", func := "loop.example/g01201/laws.FnExactPutStrip", spec := "fnExactPutStrip", unfollowed := true, recurses := true, apart := false }
def FnExactPutStripSaid : Prop := fnExactPutStripRow.holds Try.pinned (OpenSpec.ofChange fnExactPutStripSpec)

/-- ITS FALSE NEIGHBOUR: 'it returns false'. Refute it at one input. -/
def fnExactPutStripWrong : ChangeSpec := { name := "fnExactPutStrip", fn := fun _ => fun
  | [d1, d2, d3, d4] => { results := [.lit (.bool false)], args := [d1, d2, d3, d4] }
  | _ => none }
def FnExactPutStripWrongFalsely : Prop := fnExactPutStripRow.holds Try.pinned (OpenSpec.ofChange fnExactPutStripWrong)

/-- 'laws.FnExactMessagesOf': WHATEVER THE INPUT: true; the input reads as it did. -/
def fnExactMessagesOfSpec : ChangeSpec := { name := "fnExactMessagesOf", fn := fun _ => fun
  | [d1, d2] => { results := [.lit (.bool true)], args := [d1, d2] }
  | _ => none }
def fnExactMessagesOfRow : OpenClaim := { program := "ytedfbaeajofmnaa", sum := "d62feb85b893b1b8c5aa4a9bf40f0e130666dc02aaa5b98c849560584f1d0484", func := "loop.example/g01201/laws.FnExactMessagesOf", spec := "fnExactMessagesOf", unfollowed := true, recurses := true, apart := false }
def FnExactMessagesOfSaid : Prop := fnExactMessagesOfRow.holds Try.pinned (OpenSpec.ofChange fnExactMessagesOfSpec)

/-- ITS FALSE NEIGHBOUR: 'it returns false'. Refute it at one input. -/
def fnExactMessagesOfWrong : ChangeSpec := { name := "fnExactMessagesOf", fn := fun _ => fun
  | [d1, d2] => { results := [.lit (.bool false)], args := [d1, d2] }
  | _ => none }
def FnExactMessagesOfWrongFalsely : Prop := fnExactMessagesOfRow.holds Try.pinned (OpenSpec.ofChange fnExactMessagesOfWrong)

/-- 'laws.FnExactSleepingBlocks': WHATEVER THE INPUT: true; the input reads as it did. -/
def fnExactSleepingBlocksSpec : ChangeSpec := { name := "fnExactSleepingBlocks", fn := fun _ => fun
  | [d1, d2, d3] => { results := [.lit (.bool true)], args := [d1, d2, d3] }
  | _ => none }
def fnExactSleepingBlocksRow : OpenClaim := { program := "ytedfbaeajofmnaa", sum := "d62feb85b893b1b8c5aa4a9bf40f0e130666dc02aaa5b98c849560584f1d0484", func := "loop.example/g01201/laws.FnExactSleepingBlocks", spec := "fnExactSleepingBlocks", inPlace := ["math.Float32bits"], unfollowed := true, recurses := true, apart := false }
def FnExactSleepingBlocksSaid : Prop := fnExactSleepingBlocksRow.holds Try.pinned (OpenSpec.ofChange fnExactSleepingBlocksSpec)

/-- ITS FALSE NEIGHBOUR: 'it returns false'. Refute it at one input. -/
def fnExactSleepingBlocksWrong : ChangeSpec := { name := "fnExactSleepingBlocks", fn := fun _ => fun
  | [d1, d2, d3] => { results := [.lit (.bool false)], args := [d1, d2, d3] }
  | _ => none }
def FnExactSleepingBlocksWrongFalsely : Prop := fnExactSleepingBlocksRow.holds Try.pinned (OpenSpec.ofChange fnExactSleepingBlocksWrong)

/-- 'laws.FnExactStepStrip': WHATEVER THE INPUT: true; the input reads as it did. -/
def fnExactStepStripSpec : ChangeSpec := { name := "fnExactStepStrip", fn := fun _ => fun
  | [d1, d2, d3] => { results := [.lit (.bool true)], args := [d1, d2, d3] }
  | _ => none }
def fnExactStepStripRow : OpenClaim := { program := "ytedfbaeajofmnaa", sum := "d62feb85b893b1b8c5aa4a9bf40f0e130666dc02aaa5b98c849560584f1d0484", func := "loop.example/g01201/laws.FnExactStepStrip", spec := "fnExactStepStrip", unfollowed := true, recurses := true, apart := false }
def FnExactStepStripSaid : Prop := fnExactStepStripRow.holds Try.pinned (OpenSpec.ofChange fnExactStepStripSpec)

/-- ITS FALSE NEIGHBOUR: 'it returns false'. Refute it at one input. -/
def fnExactStepStripWrong : ChangeSpec := { name := "fnExactStepStrip", fn := fun _ => fun
  | [d1, d2, d3] => { results := [.lit (.bool false)], args := [d1, d2, d3] }
  | _ => none }
def FnExactStepStripWrongFalsely : Prop := fnExactStepStripRow.holds Try.pinned (OpenSpec.ofChange fnExactStepStripWrong)

/-- 'laws.FnExactStepAwake': WHATEVER THE INPUT: true; the input reads as it did. -/
def fnExactStepAwakeSpec : ChangeSpec := { name := "fnExactStepAwake", fn := fun _ => fun
  | [d1, d2, d3] => { results := [.lit (.bool true)], args := [d1, d2, d3] }
  | _ => none }
def fnExactStepAwakeRow : OpenClaim := { program := "ytedfbaeajofmnaa", sum := "d62feb85b893b1b8c5aa4a9bf40f0e130666dc02aaa5b98c849560584f1d0484", func := "loop.example/g01201/laws.FnExactStepAwake", spec := "fnExactStepAwake", inPlace := ["math.Float32bits"], unfollowed := true, recurses := true, apart := false }
def FnExactStepAwakeSaid : Prop := fnExactStepAwakeRow.holds Try.pinned (OpenSpec.ofChange fnExactStepAwakeSpec)

/-- ITS FALSE NEIGHBOUR: 'it returns false'. Refute it at one input. -/
def fnExactStepAwakeWrong : ChangeSpec := { name := "fnExactStepAwake", fn := fun _ => fun
  | [d1, d2, d3] => { results := [.lit (.bool false)], args := [d1, d2, d3] }
  | _ => none }
def FnExactStepAwakeWrongFalsely : Prop := fnExactStepAwakeRow.holds Try.pinned (OpenSpec.ofChange fnExactStepAwakeWrong)

/- THE SECOND FORM. 'bulk': how many values and letters a reading holds, each counted each time it is reached (what is shared counts as often as it is met; a slice's spare places count too). A statement '..UptoSaid' is the law's where the arguments, and the package variables that the reading takes, are together of bulk at most 1048576: NARROWER than '..Said'. Prove '..Said' where nothing that the law and all that it calls make is longer than what came in: it says more and counts as full. Else prove '..UptoSaid'. A law counts once. -/
mutual
def uptoBulk {H : Type} : DataW H → Nat
  | .lit (.string bytes) => bytes.length + 1
  | .lit _ => 1
  | .nil => 1
  | .ptr d => uptoBulk d + 1
  | .slice elems spare => uptoBulkAll elems + uptoBulkAll spare + 1
  | .agg parts => uptoBulkAll parts + 1
  | .iface _ d => uptoBulk d + 1
  | .map entries => uptoBulkEntries entries + 1
  | .held _ => 1
def uptoBulkAll {H : Type} : List (DataW H) → Nat
  | [] => 0
  | d :: r => uptoBulk d + uptoBulkAll r
def uptoBulkEntries {H : Type} : List (Lit × DataW H) → Nat
  | [] => 0
  | x :: r => uptoBulkEntry x + uptoBulkEntries r
def uptoBulkEntry {H : Type} : Lit × DataW H → Nat
  | (.string bytes, d) => bytes.length + uptoBulk d + 1
  | (_, d) => uptoBulk d + 1
 end
def uptoSmall : (H : Type) → List (DataW H) → Bool := fun _ ds => decide (uptoBulkAll ds ≤ 1048576)
def OpenSpec.upto (s : _root_.Go.ChangeSpec) : _root_.Go.OpenSpec := { _root_.Go.OpenSpec.ofChange s with cond := some uptoSmall }

/-- 'laws.FnExactIsStrip', WHERE WHAT IT READS IS OF BULK AT MOST 1048576: true; the input reads as it did. -/
def fnExactIsStripUptoRow : OpenClaim := { program := "ytedfbaeajofmnaa", sum := "d62feb85b893b1b8c5aa4a9bf40f0e130666dc02aaa5b98c849560584f1d0484", func := "loop.example/g01201/laws.FnExactIsStrip", spec := "fnExactIsStrip", unfollowed := true, recurses := true, apart := false, narrowed := true }
def FnExactIsStripUptoSaid : Prop := fnExactIsStripUptoRow.holds Try.pinned (OpenSpec.upto fnExactIsStripSpec)

/-- 'laws.FnExactCutStrip', WHERE WHAT IT READS IS OF BULK AT MOST 1048576: true; the input reads as it did. -/
def fnExactCutStripUptoRow : OpenClaim := { program := "ytedfbaeajofmnaa", sum := "d62feb85b893b1b8c5aa4a9bf40f0e130666dc02aaa5b98c849560584f1d0484", func := "loop.example/g01201/laws.FnExactCutStrip", spec := "fnExactCutStrip", unfollowed := true, recurses := true, apart := false, narrowed := true }
def FnExactCutStripUptoSaid : Prop := fnExactCutStripUptoRow.holds Try.pinned (OpenSpec.upto fnExactCutStripSpec)

/-- 'laws.FnExactStripsOf', WHERE WHAT IT READS IS OF BULK AT MOST 1048576: true; the input reads as it did. -/
def fnExactStripsOfUptoRow : OpenClaim := { program := "ytedfbaeajofmnaa", sum := "d62feb85b893b1b8c5aa4a9bf40f0e130666dc02aaa5b98c849560584f1d0484", func := "loop.example/g01201/laws.FnExactStripsOf", spec := "fnExactStripsOf", unfollowed := true, recurses := true, apart := false, narrowed := true }
def FnExactStripsOfUptoSaid : Prop := fnExactStripsOfUptoRow.holds Try.pinned (OpenSpec.upto fnExactStripsOfSpec)

/-- 'laws.FnExactHaloRows', WHERE WHAT IT READS IS OF BULK AT MOST 1048576: true; the input reads as it did. -/
def fnExactHaloRowsUptoRow : OpenClaim := { program := "ytedfbaeajofmnaa", sum := "d62feb85b893b1b8c5aa4a9bf40f0e130666dc02aaa5b98c849560584f1d0484", func := "loop.example/g01201/laws.FnExactHaloRows", spec := "fnExactHaloRows", unfollowed := true, recurses := true, apart := false, narrowed := true }
def FnExactHaloRowsUptoSaid : Prop := fnExactHaloRowsUptoRow.holds Try.pinned (OpenSpec.upto fnExactHaloRowsSpec)

/-- 'laws.FnExactPutStrip', WHERE WHAT IT READS IS OF BULK AT MOST 1048576: true; the input reads as it did. -/
def fnExactPutStripUptoRow : OpenClaim := { program := "ytedfbaeajofmnaa", sum := "d62feb85b893b1b8c5aa4a9bf40f0e130666dc02aaa5b98c849560584f1d0484", func := "loop.example/g01201/laws.FnExactPutStrip", spec := "fnExactPutStrip", unfollowed := true, recurses := true, apart := false, narrowed := true }
def FnExactPutStripUptoSaid : Prop := fnExactPutStripUptoRow.holds Try.pinned (OpenSpec.upto fnExactPutStripSpec)

/-- 'laws.FnExactMessagesOf', WHERE WHAT IT READS IS OF BULK AT MOST 1048576: true; the input reads as it did. -/
def fnExactMessagesOfUptoRow : OpenClaim := { program := "ytedfbaeajofmnaa", sum := "d62feb85b893b1b8c5aa4a9bf40f0e130666dc02aaa5b98c849560584f1d0484", func := "loop.example/g01201/laws.FnExactMessagesOf", spec := "fnExactMessagesOf", unfollowed := true, recurses := true, apart := false, narrowed := true }
def FnExactMessagesOfUptoSaid : Prop := fnExactMessagesOfUptoRow.holds Try.pinned (OpenSpec.upto fnExactMessagesOfSpec)

/-- 'laws.FnExactSleepingBlocks', WHERE WHAT IT READS IS OF BULK AT MOST 1048576: true; the input reads as it did. -/
def fnExactSleepingBlocksUptoRow : OpenClaim := { program := "ytedfbaeajofmnaa", sum := "d62feb85b893b1b8c5aa4a9bf40f0e130666dc02aaa5b98c849560584f1d0484", func := "loop.example/g01201/laws.FnExactSleepingBlocks", spec := "fnExactSleepingBlocks", inPlace := ["math.Float32bits"], unfollowed := true, recurses := true, apart := false, narrowed := true }
def FnExactSleepingBlocksUptoSaid : Prop := fnExactSleepingBlocksUptoRow.holds Try.pinned (OpenSpec.upto fnExactSleepingBlocksSpec)

/-- 'laws.FnExactStepStrip', WHERE WHAT IT READS IS OF BULK AT MOST 1048576: true; the input reads as it did. -/
def fnExactStepStripUptoRow : OpenClaim := { program := "ytedfbaeajofmnaa", sum := "d62feb85b893b1b8c5aa4a9bf40f0e130666dc02aaa5b98c849560584f1d0484", func := "loop.example/g01201/laws.FnExactStepStrip", spec := "fnExactStepStrip", unfollowed := true, recurses := true, apart := false, narrowed := true }
def FnExactStepStripUptoSaid : Prop := fnExactStepStripUptoRow.holds Try.pinned (OpenSpec.upto fnExactStepStripSpec)

/-- 'laws.FnExactStepAwake', WHERE WHAT IT READS IS OF BULK AT MOST 1048576: true; the input reads as it did. -/
def fnExactStepAwakeUptoRow : OpenClaim := { program := "ytedfbaeajofmnaa", sum := "d62feb85b893b1b8c5aa4a9bf40f0e130666dc02aaa5b98c849560584f1d0484", func := "loop.example/g01201/laws.FnExactStepAwake", spec := "fnExactStepAwake", inPlace := ["math.Float32bits"], unfollowed := true, recurses := true, apart := false, narrowed := true }
def FnExactStepAwakeUptoSaid : Prop := fnExactStepAwakeUptoRow.holds Try.pinned (OpenSpec.upto fnExactStepAwakeSpec)

end Rows
end Go.Proofs.Ytedfbaeajofmnaa
