/-
  No cell of these rows narrows 'for every input' (looked for: loops, veiled, ifaces, maps, wideKeys, modest, calm, conditions, laid).
  DERIVED. THE GIVEN ROWS OF THIS SEAT. 12 by the template 'for every input the law returns true; each argument reads behind the call as it read before'; 0 by the template 'total and deterministic' (their statements: YthlkndjllhdppaaTotals.lean).
  GIVEN WITH THE SEED: the statements are not yours to turn. If you find one false, say at which input.
  Laid BY PROGRAM, IN A SANDBOX (cutbox-rows.mjs): the forced cells as the released guide's own fill.sh prints them over the translation b160ed4680f3b7e7… (all of the seat's roots in one cut). By AI agents, Wed Nov 11 2026. No macro, syntax, notation, axiom, sorry.
-/
import Derived.Test.YthlkndjllhdppaaChecked
import GoSem.Claim
import GoSem.ClaimJoined
import GoSem.ClaimMapViews
import Derived.JoinedTies
import Derived.KernelRfl
namespace Go.Proofs.Ythlkndjllhdppaa
/- THE CELL 'sum', in the pinned program and in every row, IS THE sha256 OF THE DUMP (.gsa) THAT YthlkndjllhdppaaProg.lean LOADS. Nothing in Lean hashes anything: it is a label: what it is worth is what the hold of that sum in a sandbox is worth. -/
noncomputable def Try.pinned : Pinned := { name := "ythlkndjllhdppaa", sum := "b160ed4680f3b7e7eebe66fbb55a700638a582c42c9d515b18c752e0d38ef5be", checked := Try.checked }
namespace Rows
def none {H : Type} : Left H := { results := [], args := [] }

/-- 'laws.FnExactReachOf': WHATEVER THE INPUT: true; the input reads as it did. -/
def fnExactReachOfSpec : ChangeSpec := { name := "fnExactReachOf", fn := fun _ => fun
  | [d1, d2, d3, d4] => { results := [.lit (.bool true)], args := [d1, d2, d3, d4] }
  | _ => none }
def fnExactReachOfRow : OpenClaim := { program := "ythlkndjllhdppaa", sum := "b160ed4680f3b7e7eebe66fbb55a700638a582c42c9d515b18c752e0d38ef5be", func := "loop.example/g01201/laws.FnExactReachOf", spec := "fnExactReachOf", unfollowed := true, recurses := true, apart := false }
def FnExactReachOfSaid : Prop := fnExactReachOfRow.holds Try.pinned (OpenSpec.ofChange fnExactReachOfSpec)

/-- ITS FALSE NEIGHBOUR: 'it returns false'. Refute it at one input. -/
def fnExactReachOfWrong : ChangeSpec := { name := "fnExactReachOf", fn := fun _ => fun
  | [d1, d2, d3, d4] => { results := [.lit (.bool false)], args := [d1, d2, d3, d4] }
  | _ => none }
def FnExactReachOfWrongFalsely : Prop := fnExactReachOfRow.holds Try.pinned (OpenSpec.ofChange fnExactReachOfWrong)

/-- 'laws.FnExactIsRect': WHATEVER THE INPUT: true; the input reads as it did. -/
def fnExactIsRectSpec : ChangeSpec := { name := "fnExactIsRect", fn := fun _ => fun
  | [d1, d2] => { results := [.lit (.bool true)], args := [d1, d2] }
  | _ => none }
def fnExactIsRectRow : OpenClaim := { program := "ythlkndjllhdppaa", sum := "b160ed4680f3b7e7eebe66fbb55a700638a582c42c9d515b18c752e0d38ef5be", func := "loop.example/g01201/laws.FnExactIsRect", spec := "fnExactIsRect", unfollowed := true, recurses := true, apart := false }
def FnExactIsRectSaid : Prop := fnExactIsRectRow.holds Try.pinned (OpenSpec.ofChange fnExactIsRectSpec)

/-- ITS FALSE NEIGHBOUR: 'it returns false'. Refute it at one input. -/
def fnExactIsRectWrong : ChangeSpec := { name := "fnExactIsRect", fn := fun _ => fun
  | [d1, d2] => { results := [.lit (.bool false)], args := [d1, d2] }
  | _ => none }
def FnExactIsRectWrongFalsely : Prop := fnExactIsRectRow.holds Try.pinned (OpenSpec.ofChange fnExactIsRectWrong)

/-- 'laws.FnExactDepthOf': WHATEVER THE INPUT: true; the input reads as it did. -/
def fnExactDepthOfSpec : ChangeSpec := { name := "fnExactDepthOf", fn := fun _ => fun
  | [d1, d2, d3] => { results := [.lit (.bool true)], args := [d1, d2, d3] }
  | _ => none }
def fnExactDepthOfRow : OpenClaim := { program := "ythlkndjllhdppaa", sum := "b160ed4680f3b7e7eebe66fbb55a700638a582c42c9d515b18c752e0d38ef5be", func := "loop.example/g01201/laws.FnExactDepthOf", spec := "fnExactDepthOf", unfollowed := true, recurses := true, apart := false }
def FnExactDepthOfSaid : Prop := fnExactDepthOfRow.holds Try.pinned (OpenSpec.ofChange fnExactDepthOfSpec)

/-- ITS FALSE NEIGHBOUR: 'it returns false'. Refute it at one input. -/
def fnExactDepthOfWrong : ChangeSpec := { name := "fnExactDepthOf", fn := fun _ => fun
  | [d1, d2, d3] => { results := [.lit (.bool false)], args := [d1, d2, d3] }
  | _ => none }
def FnExactDepthOfWrongFalsely : Prop := fnExactDepthOfRow.holds Try.pinned (OpenSpec.ofChange fnExactDepthOfWrong)

/-- 'laws.FnExactGradeLosses': WHATEVER THE INPUT: true; the input reads as it did. -/
def fnExactGradeLossesSpec : ChangeSpec := { name := "fnExactGradeLosses", fn := fun _ => fun
  | [d1, d2, d3] => { results := [.lit (.bool true)], args := [d1, d2, d3] }
  | _ => none }
def fnExactGradeLossesRow : OpenClaim := { program := "ythlkndjllhdppaa", sum := "b160ed4680f3b7e7eebe66fbb55a700638a582c42c9d515b18c752e0d38ef5be", func := "loop.example/g01201/laws.FnExactGradeLosses", spec := "fnExactGradeLosses", unfollowed := true, recurses := true, apart := false }
def FnExactGradeLossesSaid : Prop := fnExactGradeLossesRow.holds Try.pinned (OpenSpec.ofChange fnExactGradeLossesSpec)

/-- ITS FALSE NEIGHBOUR: 'it returns false'. Refute it at one input. -/
def fnExactGradeLossesWrong : ChangeSpec := { name := "fnExactGradeLosses", fn := fun _ => fun
  | [d1, d2, d3] => { results := [.lit (.bool false)], args := [d1, d2, d3] }
  | _ => none }
def FnExactGradeLossesWrongFalsely : Prop := fnExactGradeLossesRow.holds Try.pinned (OpenSpec.ofChange fnExactGradeLossesWrong)

/-- 'laws.FnExactRampField': WHATEVER THE INPUT: true; the input reads as it did. -/
def fnExactRampFieldSpec : ChangeSpec := { name := "fnExactRampField", fn := fun _ => fun
  | [d1, d2, d3] => { results := [.lit (.bool true)], args := [d1, d2, d3] }
  | _ => none }
def fnExactRampFieldRow : OpenClaim := { program := "ythlkndjllhdppaa", sum := "b160ed4680f3b7e7eebe66fbb55a700638a582c42c9d515b18c752e0d38ef5be", func := "loop.example/g01201/laws.FnExactRampField", spec := "fnExactRampField", unfollowed := true, recurses := true, apart := false }
def FnExactRampFieldSaid : Prop := fnExactRampFieldRow.holds Try.pinned (OpenSpec.ofChange fnExactRampFieldSpec)

/-- ITS FALSE NEIGHBOUR: 'it returns false'. Refute it at one input. -/
def fnExactRampFieldWrong : ChangeSpec := { name := "fnExactRampField", fn := fun _ => fun
  | [d1, d2, d3] => { results := [.lit (.bool false)], args := [d1, d2, d3] }
  | _ => none }
def FnExactRampFieldWrongFalsely : Prop := fnExactRampFieldRow.holds Try.pinned (OpenSpec.ofChange fnExactRampFieldWrong)

/-- 'laws.FnExactFillRect': WHATEVER THE INPUT: true; the input reads as it did. -/
def fnExactFillRectSpec : ChangeSpec := { name := "fnExactFillRect", fn := fun _ => fun
  | [d1, d2, d3, d4] => { results := [.lit (.bool true)], args := [d1, d2, d3, d4] }
  | _ => none }
def fnExactFillRectRow : OpenClaim := { program := "ythlkndjllhdppaa", sum := "b160ed4680f3b7e7eebe66fbb55a700638a582c42c9d515b18c752e0d38ef5be", func := "loop.example/g01201/laws.FnExactFillRect", spec := "fnExactFillRect", unfollowed := true, recurses := true, apart := false }
def FnExactFillRectSaid : Prop := fnExactFillRectRow.holds Try.pinned (OpenSpec.ofChange fnExactFillRectSpec)

/-- ITS FALSE NEIGHBOUR: 'it returns false'. Refute it at one input. -/
def fnExactFillRectWrong : ChangeSpec := { name := "fnExactFillRect", fn := fun _ => fun
  | [d1, d2, d3, d4] => { results := [.lit (.bool false)], args := [d1, d2, d3, d4] }
  | _ => none }
def FnExactFillRectWrongFalsely : Prop := fnExactFillRectRow.holds Try.pinned (OpenSpec.ofChange fnExactFillRectWrong)

/-- 'laws.FnExactClearRect': WHATEVER THE INPUT: true; the input reads as it did. -/
def fnExactClearRectSpec : ChangeSpec := { name := "fnExactClearRect", fn := fun _ => fun
  | [d1, d2, d3] => { results := [.lit (.bool true)], args := [d1, d2, d3] }
  | _ => none }
def fnExactClearRectRow : OpenClaim := { program := "ythlkndjllhdppaa", sum := "b160ed4680f3b7e7eebe66fbb55a700638a582c42c9d515b18c752e0d38ef5be", func := "loop.example/g01201/laws.FnExactClearRect", spec := "fnExactClearRect", unfollowed := true, recurses := true, apart := false }
def FnExactClearRectSaid : Prop := fnExactClearRectRow.holds Try.pinned (OpenSpec.ofChange fnExactClearRectSpec)

/-- ITS FALSE NEIGHBOUR: 'it returns false'. Refute it at one input. -/
def fnExactClearRectWrong : ChangeSpec := { name := "fnExactClearRect", fn := fun _ => fun
  | [d1, d2, d3] => { results := [.lit (.bool false)], args := [d1, d2, d3] }
  | _ => none }
def FnExactClearRectWrongFalsely : Prop := fnExactClearRectRow.holds Try.pinned (OpenSpec.ofChange fnExactClearRectWrong)

/-- 'laws.FnExactChannelSheet': WHATEVER THE INPUT: true; the input reads as it did. -/
def fnExactChannelSheetSpec : ChangeSpec := { name := "fnExactChannelSheet", fn := fun _ => fun
  | [d1, d2, d3] => { results := [.lit (.bool true)], args := [d1, d2, d3] }
  | _ => none }
def fnExactChannelSheetRow : OpenClaim := { program := "ythlkndjllhdppaa", sum := "b160ed4680f3b7e7eebe66fbb55a700638a582c42c9d515b18c752e0d38ef5be", func := "loop.example/g01201/laws.FnExactChannelSheet", spec := "fnExactChannelSheet", unfollowed := true, recurses := true, apart := false }
def FnExactChannelSheetSaid : Prop := fnExactChannelSheetRow.holds Try.pinned (OpenSpec.ofChange fnExactChannelSheetSpec)

/-- ITS FALSE NEIGHBOUR: 'it returns false'. Refute it at one input. -/
def fnExactChannelSheetWrong : ChangeSpec := { name := "fnExactChannelSheet", fn := fun _ => fun
  | [d1, d2, d3] => { results := [.lit (.bool false)], args := [d1, d2, d3] }
  | _ => none }
def FnExactChannelSheetWrongFalsely : Prop := fnExactChannelSheetRow.holds Try.pinned (OpenSpec.ofChange fnExactChannelSheetWrong)

/-- 'laws.FnExactSlitSheet': WHATEVER THE INPUT: true; the input reads as it did. -/
def fnExactSlitSheetSpec : ChangeSpec := { name := "fnExactSlitSheet", fn := fun _ => fun
  | [d1, d2, d3] => { results := [.lit (.bool true)], args := [d1, d2, d3] }
  | _ => none }
def fnExactSlitSheetRow : OpenClaim := { program := "ythlkndjllhdppaa", sum := "b160ed4680f3b7e7eebe66fbb55a700638a582c42c9d515b18c752e0d38ef5be", func := "loop.example/g01201/laws.FnExactSlitSheet", spec := "fnExactSlitSheet", unfollowed := true, recurses := true, apart := false }
def FnExactSlitSheetSaid : Prop := fnExactSlitSheetRow.holds Try.pinned (OpenSpec.ofChange fnExactSlitSheetSpec)

/-- ITS FALSE NEIGHBOUR: 'it returns false'. Refute it at one input. -/
def fnExactSlitSheetWrong : ChangeSpec := { name := "fnExactSlitSheet", fn := fun _ => fun
  | [d1, d2, d3] => { results := [.lit (.bool false)], args := [d1, d2, d3] }
  | _ => none }
def FnExactSlitSheetWrongFalsely : Prop := fnExactSlitSheetRow.holds Try.pinned (OpenSpec.ofChange fnExactSlitSheetWrong)

/-- 'laws.FnExactFluxThrough': WHATEVER THE INPUT: true; the input reads as it did. -/
def fnExactFluxThroughSpec : ChangeSpec := { name := "fnExactFluxThrough", fn := fun _ => fun
  | [d1, d2, d3] => { results := [.lit (.bool true)], args := [d1, d2, d3] }
  | _ => none }
def fnExactFluxThroughRow : OpenClaim := { program := "ythlkndjllhdppaa", sum := "b160ed4680f3b7e7eebe66fbb55a700638a582c42c9d515b18c752e0d38ef5be", func := "loop.example/g01201/laws.FnExactFluxThrough", spec := "fnExactFluxThrough", unfollowed := true, recurses := true, apart := false }
def FnExactFluxThroughSaid : Prop := fnExactFluxThroughRow.holds Try.pinned (OpenSpec.ofChange fnExactFluxThroughSpec)

/-- ITS FALSE NEIGHBOUR: 'it returns false'. Refute it at one input. -/
def fnExactFluxThroughWrong : ChangeSpec := { name := "fnExactFluxThrough", fn := fun _ => fun
  | [d1, d2, d3] => { results := [.lit (.bool false)], args := [d1, d2, d3] }
  | _ => none }
def FnExactFluxThroughWrongFalsely : Prop := fnExactFluxThroughRow.holds Try.pinned (OpenSpec.ofChange fnExactFluxThroughWrong)

/-- 'laws.FnExactStillCells': WHATEVER THE INPUT: true; the input reads as it did. -/
def fnExactStillCellsSpec : ChangeSpec := { name := "fnExactStillCells", fn := fun _ => fun
  | [d] => { results := [.lit (.bool true)], args := [d] }
  | _ => none }
def fnExactStillCellsRow : OpenClaim := { program := "ythlkndjllhdppaa", sum := "b160ed4680f3b7e7eebe66fbb55a700638a582c42c9d515b18c752e0d38ef5be", func := "loop.example/g01201/laws.FnExactStillCells", spec := "fnExactStillCells", unfollowed := true, recurses := true, apart := false }
def FnExactStillCellsSaid : Prop := fnExactStillCellsRow.holds Try.pinned (OpenSpec.ofChange fnExactStillCellsSpec)

/-- ITS FALSE NEIGHBOUR: 'it returns false'. Refute it at one input. -/
def fnExactStillCellsWrong : ChangeSpec := { name := "fnExactStillCells", fn := fun _ => fun
  | [d] => { results := [.lit (.bool false)], args := [d] }
  | _ => none }
def FnExactStillCellsWrongFalsely : Prop := fnExactStillCellsRow.holds Try.pinned (OpenSpec.ofChange fnExactStillCellsWrong)

/-- 'laws.FnExactSheetCost': WHATEVER THE INPUT: true; the input reads as it did. -/
def fnExactSheetCostSpec : ChangeSpec := { name := "fnExactSheetCost", fn := fun _ => fun
  | [d] => { results := [.lit (.bool true)], args := [d] }
  | _ => none }
def fnExactSheetCostRow : OpenClaim := { program := "ythlkndjllhdppaa", sum := "b160ed4680f3b7e7eebe66fbb55a700638a582c42c9d515b18c752e0d38ef5be", func := "loop.example/g01201/laws.FnExactSheetCost", spec := "fnExactSheetCost", unfollowed := true, recurses := true, apart := false }
def FnExactSheetCostSaid : Prop := fnExactSheetCostRow.holds Try.pinned (OpenSpec.ofChange fnExactSheetCostSpec)

/-- ITS FALSE NEIGHBOUR: 'it returns false'. Refute it at one input. -/
def fnExactSheetCostWrong : ChangeSpec := { name := "fnExactSheetCost", fn := fun _ => fun
  | [d] => { results := [.lit (.bool false)], args := [d] }
  | _ => none }
def FnExactSheetCostWrongFalsely : Prop := fnExactSheetCostRow.holds Try.pinned (OpenSpec.ofChange fnExactSheetCostWrong)

/- THE SECOND FORM. 'bulk': how many values and letters a reading holds, each counted each time it is reached (what is shared counts as often as it is met; a slice's spare places count too). A statement '..UptoSaid' is the law's where the arguments, and the package variables that the reading takes, are together of bulk at most 1048576: NARROWER than '..Said'. Prove '..Said' where nothing that the law and all that it calls make is longer than what came in: it says more and counts as full. Else prove '..UptoSaid'. A law counts once. -/
mutual
def uptoBulk {H : Type} : DataW H → Nat
  | .lit (.string bytes) => bytes.length + 1
  | .lit _ => 1
  | .nil => 1
  | .ptr d => uptoBulk d + 1
  | .slice elems spare => uptoBulkAll elems + uptoBulkAll spare + 1
  | .agg parts => uptoBulkAll parts + 1
  | .iface _ d => uptoBulk d + 1
  | .map entries => uptoBulkEntries entries + 1
  | .held _ => 1
def uptoBulkAll {H : Type} : List (DataW H) → Nat
  | [] => 0
  | d :: r => uptoBulk d + uptoBulkAll r
def uptoBulkEntries {H : Type} : List (Lit × DataW H) → Nat
  | [] => 0
  | x :: r => uptoBulkEntry x + uptoBulkEntries r
def uptoBulkEntry {H : Type} : Lit × DataW H → Nat
  | (.string bytes, d) => bytes.length + uptoBulk d + 1
  | (_, d) => uptoBulk d + 1
 end
def uptoSmall : (H : Type) → List (DataW H) → Bool := fun _ ds => decide (uptoBulkAll ds ≤ 1048576)
def OpenSpec.upto (s : _root_.Go.ChangeSpec) : _root_.Go.OpenSpec := { _root_.Go.OpenSpec.ofChange s with cond := some uptoSmall }

/-- 'laws.FnExactReachOf', WHERE WHAT IT READS IS OF BULK AT MOST 1048576: true; the input reads as it did. -/
def fnExactReachOfUptoRow : OpenClaim := { program := "ythlkndjllhdppaa", sum := "b160ed4680f3b7e7eebe66fbb55a700638a582c42c9d515b18c752e0d38ef5be", func := "loop.example/g01201/laws.FnExactReachOf", spec := "fnExactReachOf", unfollowed := true, recurses := true, apart := false, narrowed := true }
def FnExactReachOfUptoSaid : Prop := fnExactReachOfUptoRow.holds Try.pinned (OpenSpec.upto fnExactReachOfSpec)

/-- 'laws.FnExactIsRect', WHERE WHAT IT READS IS OF BULK AT MOST 1048576: true; the input reads as it did. -/
def fnExactIsRectUptoRow : OpenClaim := { program := "ythlkndjllhdppaa", sum := "b160ed4680f3b7e7eebe66fbb55a700638a582c42c9d515b18c752e0d38ef5be", func := "loop.example/g01201/laws.FnExactIsRect", spec := "fnExactIsRect", unfollowed := true, recurses := true, apart := false, narrowed := true }
def FnExactIsRectUptoSaid : Prop := fnExactIsRectUptoRow.holds Try.pinned (OpenSpec.upto fnExactIsRectSpec)

/-- 'laws.FnExactDepthOf', WHERE WHAT IT READS IS OF BULK AT MOST 1048576: true; the input reads as it did. -/
def fnExactDepthOfUptoRow : OpenClaim := { program := "ythlkndjllhdppaa", sum := "b160ed4680f3b7e7eebe66fbb55a700638a582c42c9d515b18c752e0d38ef5be", func := "loop.example/g01201/laws.FnExactDepthOf", spec := "fnExactDepthOf", unfollowed := true, recurses := true, apart := false, narrowed := true }
def FnExactDepthOfUptoSaid : Prop := fnExactDepthOfUptoRow.holds Try.pinned (OpenSpec.upto fnExactDepthOfSpec)

/-- 'laws.FnExactGradeLosses', WHERE WHAT IT READS IS OF BULK AT MOST 1048576: true; the input reads as it did. -/
def fnExactGradeLossesUptoRow : OpenClaim := { program := "ythlkndjllhdppaa", sum := "b160ed4680f3b7e7eebe66fbb55a700638a582c42c9d515b18c752e0d38ef5be", func := "loop.example/g01201/laws.FnExactGradeLosses", spec := "fnExactGradeLosses", unfollowed := true, recurses := true, apart := false, narrowed := true }
def FnExactGradeLossesUptoSaid : Prop := fnExactGradeLossesUptoRow.holds Try.pinned (OpenSpec.upto fnExactGradeLossesSpec)

/-- 'laws.FnExactRampField', WHERE WHAT IT READS IS OF BULK AT MOST 1048576: true; the input reads as it did. -/
def fnExactRampFieldUptoRow : OpenClaim := { program := "ythlkndjllhdppaa", sum := "b160ed4680f3b7e7eebe66fbb55a700638a582c42c9d515b18c752e0d38ef5be", func := "loop.example/g01201/laws.FnExactRampField", spec := "fnExactRampField", unfollowed := true, recurses := true, apart := false, narrowed := true }
def FnExactRampFieldUptoSaid : Prop := fnExactRampFieldUptoRow.holds Try.pinned (OpenSpec.upto fnExactRampFieldSpec)

/-- 'laws.FnExactFillRect', WHERE WHAT IT READS IS OF BULK AT MOST 1048576: true; the input reads as it did. -/
def fnExactFillRectUptoRow : OpenClaim := { program := "ythlkndjllhdppaa", sum := "b160ed4680f3b7e7eebe66fbb55a700638a582c42c9d515b18c752e0d38ef5be", func := "loop.example/g01201/laws.FnExactFillRect", spec := "fnExactFillRect", unfollowed := true, recurses := true, apart := false, narrowed := true }
def FnExactFillRectUptoSaid : Prop := fnExactFillRectUptoRow.holds Try.pinned (OpenSpec.upto fnExactFillRectSpec)

/-- 'laws.FnExactClearRect', WHERE WHAT IT READS IS OF BULK AT MOST 1048576: true; the input reads as it did. -/
def fnExactClearRectUptoRow : OpenClaim := { program := "ythlkndjllhdppaa", sum := "b160ed4680f3b7e7eebe66fbb55a700638a582c42c9d515b18c752e0d38ef5be", func := "loop.example/g01201/laws.FnExactClearRect", spec := "fnExactClearRect", unfollowed := true, recurses := true, apart := false, narrowed := true }
def FnExactClearRectUptoSaid : Prop := fnExactClearRectUptoRow.holds Try.pinned (OpenSpec.upto fnExactClearRectSpec)

/-- 'laws.FnExactChannelSheet', WHERE WHAT IT READS IS OF BULK AT MOST 1048576: true; the input reads as it did. -/
def fnExactChannelSheetUptoRow : OpenClaim := { program := "ythlkndjllhdppaa", sum := "b160ed4680f3b7e7eebe66fbb55a700638a582c42c9d515b18c752e0d38ef5be", func := "loop.example/g01201/laws.FnExactChannelSheet", spec := "fnExactChannelSheet", unfollowed := true, recurses := true, apart := false, narrowed := true }
def FnExactChannelSheetUptoSaid : Prop := fnExactChannelSheetUptoRow.holds Try.pinned (OpenSpec.upto fnExactChannelSheetSpec)

/-- 'laws.FnExactSlitSheet', WHERE WHAT IT READS IS OF BULK AT MOST 1048576: true; the input reads as it did. -/
def fnExactSlitSheetUptoRow : OpenClaim := { program := "ythlkndjllhdppaa", sum := "b160ed4680f3b7e7eebe66fbb55a700638a582c42c9d515b18c752e0d38ef5be", func := "loop.example/g01201/laws.FnExactSlitSheet", spec := "fnExactSlitSheet", unfollowed := true, recurses := true, apart := false, narrowed := true }
def FnExactSlitSheetUptoSaid : Prop := fnExactSlitSheetUptoRow.holds Try.pinned (OpenSpec.upto fnExactSlitSheetSpec)

/-- 'laws.FnExactFluxThrough', WHERE WHAT IT READS IS OF BULK AT MOST 1048576: true; the input reads as it did. -/
def fnExactFluxThroughUptoRow : OpenClaim := { program := "ythlkndjllhdppaa", sum := "b160ed4680f3b7e7eebe66fbb55a700638a582c42c9d515b18c752e0d38ef5be", func := "loop.example/g01201/laws.FnExactFluxThrough", spec := "fnExactFluxThrough", unfollowed := true, recurses := true, apart := false, narrowed := true }
def FnExactFluxThroughUptoSaid : Prop := fnExactFluxThroughUptoRow.holds Try.pinned (OpenSpec.upto fnExactFluxThroughSpec)

/-- 'laws.FnExactStillCells', WHERE WHAT IT READS IS OF BULK AT MOST 1048576: true; the input reads as it did. -/
def fnExactStillCellsUptoRow : OpenClaim := { program := "ythlkndjllhdppaa", sum := "b160ed4680f3b7e7eebe66fbb55a700638a582c42c9d515b18c752e0d38ef5be", func := "loop.example/g01201/laws.FnExactStillCells", spec := "fnExactStillCells", unfollowed := true, recurses := true, apart := false, narrowed := true }
def FnExactStillCellsUptoSaid : Prop := fnExactStillCellsUptoRow.holds Try.pinned (OpenSpec.upto fnExactStillCellsSpec)

/-- 'laws.FnExactSheetCost', WHERE WHAT IT READS IS OF BULK AT MOST 1048576: true; the input reads as it did. -/
def fnExactSheetCostUptoRow : OpenClaim := { program := "ythlkndjllhdppaa", sum := "b160ed4680f3b7e7eebe66fbb55a700638a582c42c9d515b18c752e0d38ef5be", func := "loop.example/g01201/laws.FnExactSheetCost", spec := "fnExactSheetCost", unfollowed := true, recurses := true, apart := false, narrowed := true }
def FnExactSheetCostUptoSaid : Prop := fnExactSheetCostUptoRow.holds Try.pinned (OpenSpec.upto fnExactSheetCostSpec)

end Rows
end Go.Proofs.Ythlkndjllhdppaa
