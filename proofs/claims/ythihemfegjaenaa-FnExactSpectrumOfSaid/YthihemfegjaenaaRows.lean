/-
  No cell of these rows narrows 'for every input' (looked for: loops, veiled, ifaces, maps, wideKeys, modest, calm, conditions, laid).
  DERIVED. THE GIVEN ROWS OF THIS SEAT. 8 by the template 'for every input the law returns true; each argument reads behind the call as it read before'; 0 by the template 'total and deterministic' (their statements: YthihemfegjaenaaTotals.lean).
  GIVEN WITH THE SEED: the statements are not yours to turn. If you find one false, say at which input.
  Laid BY PROGRAM, IN A SANDBOX (cutbox-rows.mjs): the forced cells as the released guide's own fill.sh prints them over the translation 09e8e74126742fac… (all of the seat's roots in one cut). By AI agents, Wed Nov 11 2026. No macro, syntax, notation, axiom, sorry.
-/
import Derived.Test.YthihemfegjaenaaChecked
import GoSem.Claim
import GoSem.ClaimJoined
import GoSem.ClaimMapViews
import Derived.JoinedTies
import Derived.KernelRfl
namespace Go.Proofs.Ythihemfegjaenaa
/- THE CELL 'sum', in the pinned program and in every row, IS THE sha256 OF THE DUMP (.gsa) THAT YthihemfegjaenaaProg.lean LOADS. Nothing in Lean hashes anything: it is a label: what it is worth is what the hold of that sum in a sandbox is worth. -/
noncomputable def Try.pinned : Pinned := { name := "ythihemfegjaenaa", sum := "09e8e74126742fac2f9cf844a61f180fc419105f5593a642152872c159f329e5", checked := Try.checked }
namespace Rows
def none {H : Type} : Left H := { results := [], args := [] }

/-- 'laws.FnExactReachOf': WHATEVER THE INPUT: true; the input reads as it did. -/
def fnExactReachOfSpec : ChangeSpec := { name := "fnExactReachOf", fn := fun _ => fun
  | [d1, d2, d3, d4] => { results := [.lit (.bool true)], args := [d1, d2, d3, d4] }
  | _ => none }
def fnExactReachOfRow : OpenClaim := { program := "ythihemfegjaenaa", sum := "09e8e74126742fac2f9cf844a61f180fc419105f5593a642152872c159f329e5", func := "loop.example/g01201/laws.FnExactReachOf", spec := "fnExactReachOf", unfollowed := true, recurses := true, apart := false }
def FnExactReachOfSaid : Prop := fnExactReachOfRow.holds Try.pinned (OpenSpec.ofChange fnExactReachOfSpec)

/-- ITS FALSE NEIGHBOUR: 'it returns false'. Refute it at one input. -/
def fnExactReachOfWrong : ChangeSpec := { name := "fnExactReachOf", fn := fun _ => fun
  | [d1, d2, d3, d4] => { results := [.lit (.bool false)], args := [d1, d2, d3, d4] }
  | _ => none }
def FnExactReachOfWrongFalsely : Prop := fnExactReachOfRow.holds Try.pinned (OpenSpec.ofChange fnExactReachOfWrong)

/-- 'laws.FnExactGradeLosses': WHATEVER THE INPUT: true; the input reads as it did. -/
def fnExactGradeLossesSpec : ChangeSpec := { name := "fnExactGradeLosses", fn := fun _ => fun
  | [d1, d2, d3] => { results := [.lit (.bool true)], args := [d1, d2, d3] }
  | _ => none }
def fnExactGradeLossesRow : OpenClaim := { program := "ythihemfegjaenaa", sum := "09e8e74126742fac2f9cf844a61f180fc419105f5593a642152872c159f329e5", func := "loop.example/g01201/laws.FnExactGradeLosses", spec := "fnExactGradeLosses", unfollowed := true, recurses := true, apart := false }
def FnExactGradeLossesSaid : Prop := fnExactGradeLossesRow.holds Try.pinned (OpenSpec.ofChange fnExactGradeLossesSpec)

/-- ITS FALSE NEIGHBOUR: 'it returns false'. Refute it at one input. -/
def fnExactGradeLossesWrong : ChangeSpec := { name := "fnExactGradeLosses", fn := fun _ => fun
  | [d1, d2, d3] => { results := [.lit (.bool false)], args := [d1, d2, d3] }
  | _ => none }
def FnExactGradeLossesWrongFalsely : Prop := fnExactGradeLossesRow.holds Try.pinned (OpenSpec.ofChange fnExactGradeLossesWrong)

/-- 'laws.FnExactRampField': WHATEVER THE INPUT: true; the input reads as it did. -/
def fnExactRampFieldSpec : ChangeSpec := { name := "fnExactRampField", fn := fun _ => fun
  | [d1, d2, d3] => { results := [.lit (.bool true)], args := [d1, d2, d3] }
  | _ => none }
def fnExactRampFieldRow : OpenClaim := { program := "ythihemfegjaenaa", sum := "09e8e74126742fac2f9cf844a61f180fc419105f5593a642152872c159f329e5", func := "loop.example/g01201/laws.FnExactRampField", spec := "fnExactRampField", unfollowed := true, recurses := true, apart := false }
def FnExactRampFieldSaid : Prop := fnExactRampFieldRow.holds Try.pinned (OpenSpec.ofChange fnExactRampFieldSpec)

/-- ITS FALSE NEIGHBOUR: 'it returns false'. Refute it at one input. -/
def fnExactRampFieldWrong : ChangeSpec := { name := "fnExactRampField", fn := fun _ => fun
  | [d1, d2, d3] => { results := [.lit (.bool false)], args := [d1, d2, d3] }
  | _ => none }
def FnExactRampFieldWrongFalsely : Prop := fnExactRampFieldRow.holds Try.pinned (OpenSpec.ofChange fnExactRampFieldWrong)

/-- 'laws.FnExactSlitSheet': WHATEVER THE INPUT: true; the input reads as it did. -/
def fnExactSlitSheetSpec : ChangeSpec := { name := "fnExactSlitSheet", fn := fun _ => fun
  | [d1, d2, d3] => { results := [.lit (.bool true)], args := [d1, d2, d3] }
  | _ => none }
def fnExactSlitSheetRow : OpenClaim := { program := "ythihemfegjaenaa", sum := "09e8e74126742fac2f9cf844a61f180fc419105f5593a642152872c159f329e5", func := "loop.example/g01201/laws.FnExactSlitSheet", spec := "fnExactSlitSheet", unfollowed := true, recurses := true, apart := false }
def FnExactSlitSheetSaid : Prop := fnExactSlitSheetRow.holds Try.pinned (OpenSpec.ofChange fnExactSlitSheetSpec)

/-- ITS FALSE NEIGHBOUR: 'it returns false'. Refute it at one input. -/
def fnExactSlitSheetWrong : ChangeSpec := { name := "fnExactSlitSheet", fn := fun _ => fun
  | [d1, d2, d3] => { results := [.lit (.bool false)], args := [d1, d2, d3] }
  | _ => none }
def FnExactSlitSheetWrongFalsely : Prop := fnExactSlitSheetRow.holds Try.pinned (OpenSpec.ofChange fnExactSlitSheetWrong)

/-- 'laws.FnExactWindowOf': WHATEVER THE INPUT: true; the input reads as it did. -/
def fnExactWindowOfSpec : ChangeSpec := { name := "fnExactWindowOf", fn := fun _ => fun
  | [d1, d2] => { results := [.lit (.bool true)], args := [d1, d2] }
  | _ => none }
def fnExactWindowOfRow : OpenClaim := { program := "ythihemfegjaenaa", sum := "09e8e74126742fac2f9cf844a61f180fc419105f5593a642152872c159f329e5", func := "loop.example/g01201/laws.FnExactWindowOf", spec := "fnExactWindowOf", inPlace := ["math.Float64frombits", "math.Float64bits"], unfollowed := true, recurses := true, apart := false }
def FnExactWindowOfSaid : Prop := fnExactWindowOfRow.holds Try.pinned (OpenSpec.ofChange fnExactWindowOfSpec)

/-- ITS FALSE NEIGHBOUR: 'it returns false'. Refute it at one input. -/
def fnExactWindowOfWrong : ChangeSpec := { name := "fnExactWindowOf", fn := fun _ => fun
  | [d1, d2] => { results := [.lit (.bool false)], args := [d1, d2] }
  | _ => none }
def FnExactWindowOfWrongFalsely : Prop := fnExactWindowOfRow.holds Try.pinned (OpenSpec.ofChange fnExactWindowOfWrong)

/-- 'laws.FnExactTimesWindow': WHATEVER THE INPUT: true; the input reads as it did. -/
def fnExactTimesWindowSpec : ChangeSpec := { name := "fnExactTimesWindow", fn := fun _ => fun
  | [d1, d2] => { results := [.lit (.bool true)], args := [d1, d2] }
  | _ => none }
def fnExactTimesWindowRow : OpenClaim := { program := "ythihemfegjaenaa", sum := "09e8e74126742fac2f9cf844a61f180fc419105f5593a642152872c159f329e5", func := "loop.example/g01201/laws.FnExactTimesWindow", spec := "fnExactTimesWindow", unfollowed := true, recurses := true, apart := false }
def FnExactTimesWindowSaid : Prop := fnExactTimesWindowRow.holds Try.pinned (OpenSpec.ofChange fnExactTimesWindowSpec)

/-- ITS FALSE NEIGHBOUR: 'it returns false'. Refute it at one input. -/
def fnExactTimesWindowWrong : ChangeSpec := { name := "fnExactTimesWindow", fn := fun _ => fun
  | [d1, d2] => { results := [.lit (.bool false)], args := [d1, d2] }
  | _ => none }
def FnExactTimesWindowWrongFalsely : Prop := fnExactTimesWindowRow.holds Try.pinned (OpenSpec.ofChange fnExactTimesWindowWrong)

/-- 'laws.FnExactBinOf': WHATEVER THE INPUT: true; the input reads as it did. -/
def fnExactBinOfSpec : ChangeSpec := { name := "fnExactBinOf", fn := fun _ => fun
  | [d1, d2] => { results := [.lit (.bool true)], args := [d1, d2] }
  | _ => none }
def fnExactBinOfRow : OpenClaim := { program := "ythihemfegjaenaa", sum := "09e8e74126742fac2f9cf844a61f180fc419105f5593a642152872c159f329e5", func := "loop.example/g01201/laws.FnExactBinOf", spec := "fnExactBinOf", inPlace := ["math.Float32frombits", "math.Float64frombits", "math.Float64bits"], apart := false }
def FnExactBinOfSaid : Prop := fnExactBinOfRow.holds Try.pinned (OpenSpec.ofChange fnExactBinOfSpec)

/-- ITS FALSE NEIGHBOUR: 'it returns false'. Refute it at one input. -/
def fnExactBinOfWrong : ChangeSpec := { name := "fnExactBinOf", fn := fun _ => fun
  | [d1, d2] => { results := [.lit (.bool false)], args := [d1, d2] }
  | _ => none }
def FnExactBinOfWrongFalsely : Prop := fnExactBinOfRow.holds Try.pinned (OpenSpec.ofChange fnExactBinOfWrong)

/-- 'laws.FnExactSpectrumOf': WHATEVER THE INPUT: true; the input reads as it did. -/
def fnExactSpectrumOfSpec : ChangeSpec := { name := "fnExactSpectrumOf", fn := fun _ => fun
  | [d] => { results := [.lit (.bool true)], args := [d] }
  | _ => none }
def fnExactSpectrumOfRow : OpenClaim := { program := "ythihemfegjaenaa", sum := "09e8e74126742fac2f9cf844a61f180fc419105f5593a642152872c159f329e5", func := "loop.example/g01201/laws.FnExactSpectrumOf", spec := "fnExactSpectrumOf", inPlace := ["math.Float32frombits", "math.Float64frombits", "math.Float64bits"], unfollowed := true, recurses := true, apart := false }
def FnExactSpectrumOfSaid : Prop := fnExactSpectrumOfRow.holds Try.pinned (OpenSpec.ofChange fnExactSpectrumOfSpec)

/-- ITS FALSE NEIGHBOUR: 'it returns false'. Refute it at one input. -/
def fnExactSpectrumOfWrong : ChangeSpec := { name := "fnExactSpectrumOf", fn := fun _ => fun
  | [d] => { results := [.lit (.bool false)], args := [d] }
  | _ => none }
def FnExactSpectrumOfWrongFalsely : Prop := fnExactSpectrumOfRow.holds Try.pinned (OpenSpec.ofChange fnExactSpectrumOfWrong)

/- THE SECOND FORM. 'bulk': how many values and letters a reading holds, each counted each time it is reached (what is shared counts as often as it is met; a slice's spare places count too). A statement '..UptoSaid' is the law's where the arguments, and the package variables that the reading takes, are together of bulk at most 1048576: NARROWER than '..Said'. Prove '..Said' where nothing that the law and all that it calls make is longer than what came in: it says more and counts as full. Else prove '..UptoSaid'. A law counts once. -/
mutual
def uptoBulk {H : Type} : DataW H → Nat
  | .lit (.string bytes) => bytes.length + 1
  | .lit _ => 1
  | .nil => 1
  | .ptr d => uptoBulk d + 1
  | .slice elems spare => uptoBulkAll elems + uptoBulkAll spare + 1
  | .agg parts => uptoBulkAll parts + 1
  | .iface _ d => uptoBulk d + 1
  | .map entries => uptoBulkEntries entries + 1
  | .held _ => 1
def uptoBulkAll {H : Type} : List (DataW H) → Nat
  | [] => 0
  | d :: r => uptoBulk d + uptoBulkAll r
def uptoBulkEntries {H : Type} : List (Lit × DataW H) → Nat
  | [] => 0
  | x :: r => uptoBulkEntry x + uptoBulkEntries r
def uptoBulkEntry {H : Type} : Lit × DataW H → Nat
  | (.string bytes, d) => bytes.length + uptoBulk d + 1
  | (_, d) => uptoBulk d + 1
 end
def uptoSmall : (H : Type) → List (DataW H) → Bool := fun _ ds => decide (uptoBulkAll ds ≤ 1048576)
def OpenSpec.upto (s : _root_.Go.ChangeSpec) : _root_.Go.OpenSpec := { _root_.Go.OpenSpec.ofChange s with cond := some uptoSmall }

/-- 'laws.FnExactReachOf', WHERE WHAT IT READS IS OF BULK AT MOST 1048576: true; the input reads as it did. -/
def fnExactReachOfUptoRow : OpenClaim := { program := "ythihemfegjaenaa", sum := "09e8e74126742fac2f9cf844a61f180fc419105f5593a642152872c159f329e5", func := "loop.example/g01201/laws.FnExactReachOf", spec := "fnExactReachOf", unfollowed := true, recurses := true, apart := false, narrowed := true }
def FnExactReachOfUptoSaid : Prop := fnExactReachOfUptoRow.holds Try.pinned (OpenSpec.upto fnExactReachOfSpec)

/-- 'laws.FnExactGradeLosses', WHERE WHAT IT READS IS OF BULK AT MOST 1048576: true; the input reads as it did. -/
def fnExactGradeLossesUptoRow : OpenClaim := { program := "ythihemfegjaenaa", sum := "09e8e74126742fac2f9cf844a61f180fc419105f5593a642152872c159f329e5", func := "loop.example/g01201/laws.FnExactGradeLosses", spec := "fnExactGradeLosses", unfollowed := true, recurses := true, apart := false, narrowed := true }
def FnExactGradeLossesUptoSaid : Prop := fnExactGradeLossesUptoRow.holds Try.pinned (OpenSpec.upto fnExactGradeLossesSpec)

/-- 'laws.FnExactRampField', WHERE WHAT IT READS IS OF BULK AT MOST 1048576: true; the input reads as it did. -/
def fnExactRampFieldUptoRow : OpenClaim := { program := "ythihemfegjaenaa", sum := "09e8e74126742fac2f9cf844a61f180fc419105f5593a642152872c159f329e5", func := "loop.example/g01201/laws.FnExactRampField", spec := "fnExactRampField", unfollowed := true, recurses := true, apart := false, narrowed := true }
def FnExactRampFieldUptoSaid : Prop := fnExactRampFieldUptoRow.holds Try.pinned (OpenSpec.upto fnExactRampFieldSpec)

/-- 'laws.FnExactSlitSheet', WHERE WHAT IT READS IS OF BULK AT MOST 1048576: true; the input reads as it did. -/
def fnExactSlitSheetUptoRow : OpenClaim := { program := "ythihemfegjaenaa", sum := "09e8e74126742fac2f9cf844a61f180fc419105f5593a642152872c159f329e5", func := "loop.example/g01201/laws.FnExactSlitSheet", spec := "fnExactSlitSheet", unfollowed := true, recurses := true, apart := false, narrowed := true }
def FnExactSlitSheetUptoSaid : Prop := fnExactSlitSheetUptoRow.holds Try.pinned (OpenSpec.upto fnExactSlitSheetSpec)

/-- 'laws.FnExactWindowOf', WHERE WHAT IT READS IS OF BULK AT MOST 1048576: true; the input reads as it did. -/
def fnExactWindowOfUptoRow : OpenClaim := { program := "ythihemfegjaenaa", sum := "09e8e74126742fac2f9cf844a61f180fc419105f5593a642152872c159f329e5", func := "loop.example/g01201/laws.FnExactWindowOf", spec := "fnExactWindowOf", inPlace := ["math.Float64frombits", "math.Float64bits"], unfollowed := true, recurses := true, apart := false, narrowed := true }
def FnExactWindowOfUptoSaid : Prop := fnExactWindowOfUptoRow.holds Try.pinned (OpenSpec.upto fnExactWindowOfSpec)

/-- 'laws.FnExactTimesWindow', WHERE WHAT IT READS IS OF BULK AT MOST 1048576: true; the input reads as it did. -/
def fnExactTimesWindowUptoRow : OpenClaim := { program := "ythihemfegjaenaa", sum := "09e8e74126742fac2f9cf844a61f180fc419105f5593a642152872c159f329e5", func := "loop.example/g01201/laws.FnExactTimesWindow", spec := "fnExactTimesWindow", unfollowed := true, recurses := true, apart := false, narrowed := true }
def FnExactTimesWindowUptoSaid : Prop := fnExactTimesWindowUptoRow.holds Try.pinned (OpenSpec.upto fnExactTimesWindowSpec)

/-- 'laws.FnExactBinOf', WHERE WHAT IT READS IS OF BULK AT MOST 1048576: true; the input reads as it did. -/
def fnExactBinOfUptoRow : OpenClaim := { program := "ythihemfegjaenaa", sum := "09e8e74126742fac2f9cf844a61f180fc419105f5593a642152872c159f329e5", func := "loop.example/g01201/laws.FnExactBinOf", spec := "fnExactBinOf", inPlace := ["math.Float32frombits", "math.Float64frombits", "math.Float64bits"], apart := false, narrowed := true }
def FnExactBinOfUptoSaid : Prop := fnExactBinOfUptoRow.holds Try.pinned (OpenSpec.upto fnExactBinOfSpec)

/-- 'laws.FnExactSpectrumOf', WHERE WHAT IT READS IS OF BULK AT MOST 1048576: true; the input reads as it did. -/
def fnExactSpectrumOfUptoRow : OpenClaim := { program := "ythihemfegjaenaa", sum := "09e8e74126742fac2f9cf844a61f180fc419105f5593a642152872c159f329e5", func := "loop.example/g01201/laws.FnExactSpectrumOf", spec := "fnExactSpectrumOf", inPlace := ["math.Float32frombits", "math.Float64frombits", "math.Float64bits"], unfollowed := true, recurses := true, apart := false, narrowed := true }
def FnExactSpectrumOfUptoSaid : Prop := fnExactSpectrumOfUptoRow.holds Try.pinned (OpenSpec.upto fnExactSpectrumOfSpec)

end Rows
end Go.Proofs.Ythihemfegjaenaa
