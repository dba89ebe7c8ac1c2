/-
  No cell of these rows narrows 'for every input' (looked for: loops, veiled, ifaces, maps, wideKeys, modest, calm, conditions, laid).
  DERIVED. THE GIVEN ROWS OF THIS SEAT. 12 by the template 'for every input the law returns true; each argument reads behind the call as it read before'; 0 by the template 'total and deterministic' (their statements: YtabhjnpmmjmaiabTotals.lean).
  GIVEN WITH THE SEED: the statements are not yours to turn. If you find one false, say at which input.
  Laid BY PROGRAM, IN A SANDBOX (cutbox-rows.mjs): the forced cells as the released guide's own fill.sh prints them over the translation c5d464db667fa540… (all of the seat's roots in one cut). By AI agents, Wed Nov 11 2026. No macro, syntax, notation, axiom, sorry.
-/
import Derived.Test.YtabhjnpmmjmaiabChecked
import GoSem.Claim
import GoSem.ClaimJoined
import GoSem.ClaimMapViews
import Derived.JoinedTies
import Derived.KernelRfl
namespace Go.Proofs.Ytabhjnpmmjmaiab
/- THE CELL 'sum', in the pinned program and in every row, IS THE sha256 OF THE DUMP (.gsa) THAT YtabhjnpmmjmaiabProg.lean LOADS. Nothing in Lean hashes anything: it is a label: what it is worth is what the hold of that sum in a sandbox is worth. -/
noncomputable def Try.pinned : Pinned := { name := "ytabhjnpmmjmaiab", sum := "c5d464db667fa5403e690d47e5e949252c5a5d1f244541c086a9a19ae980fb5a", checked := Try.checked }
namespace Rows
def none {H : Type} : Left H := { results := [], args := [] }

/-- 'laws.FnExactValidSheet': WHATEVER THE INPUT: true; the input reads as it did. -/
def fnExactValidSheetSpec : ChangeSpec := { name := "fnExactValidSheet", fn := fun _ => fun
  | [d] => { results := [.lit (.bool true)], args := [d] }
  | _ => none }
def fnExactValidSheetRow : OpenClaim := { program := "ytabhjnpmmjmaiab", sum := "c5d464db667fa5403e690d47e5e949252c5a5d1f244541c086a9a19ae980fb5a", func := "loop.example/g01201/laws.FnExactValidSheet", spec := "fnExactValidSheet", unfollowed := true, recurses := true, apart := false }
def FnExactValidSheetSaid : Prop := fnExactValidSheetRow.holds Try.pinned (OpenSpec.ofChange fnExactValidSheetSpec)

/-- ITS FALSE NEIGHBOUR: 'it returns false'. Refute it at one input. -/
def fnExactValidSheetWrong : ChangeSpec := { name := "fnExactValidSheet", fn := fun _ => fun
  | [d] => { results := [.lit (.bool false)], args := [d] }
  | _ => none }
def FnExactValidSheetWrongFalsely : Prop := fnExactValidSheetRow.holds Try.pinned (OpenSpec.ofChange fnExactValidSheetWrong)

/-- 'laws.FnExactSameSheet': WHATEVER THE INPUT: true; the input reads as it did. -/
def fnExactSameSheetSpec : ChangeSpec := { name := "fnExactSameSheet", fn := fun _ => fun
  | [d1, d2] => { results := [.lit (.bool true)], args := [d1, d2] }
  | _ => none }
def fnExactSameSheetRow : OpenClaim := { program := "ytabhjnpmmjmaiab", sum := "c5d464db667fa5403e690d47e5e949252c5a5d1f244541c086a9a19ae980fb5a", func := "loop.example/g01201/laws.FnExactSameSheet", spec := "fnExactSameSheet", inPlace := ["math.Float32bits"], unfollowed := true, recurses := true, apart := false }
def FnExactSameSheetSaid : Prop := fnExactSameSheetRow.holds Try.pinned (OpenSpec.ofChange fnExactSameSheetSpec)

/-- ITS FALSE NEIGHBOUR: 'it returns false'. Refute it at one input. -/
def fnExactSameSheetWrong : ChangeSpec := { name := "fnExactSameSheet", fn := fun _ => fun
  | [d1, d2] => { results := [.lit (.bool false)], args := [d1, d2] }
  | _ => none }
def FnExactSameSheetWrongFalsely : Prop := fnExactSameSheetRow.holds Try.pinned (OpenSpec.ofChange fnExactSameSheetWrong)

/-- 'laws.FnExactPlainSheet': WHATEVER THE INPUT: true; the input reads as it did. -/
def fnExactPlainSheetSpec : ChangeSpec := { name := "fnExactPlainSheet", fn := fun _ => fun
  | [d1, d2, d3, d4] => { results := [.lit (.bool true)], args := [d1, d2, d3, d4] }
  | _ => none }
def fnExactPlainSheetRow : OpenClaim := { program := "ytabhjnpmmjmaiab", sum := "c5d464db667fa5403e690d47e5e949252c5a5d1f244541c086a9a19ae980fb5a", func := "loop.example/g01201/laws.FnExactPlainSheet", spec := "fnExactPlainSheet", apart := false }
def FnExactPlainSheetSaid : Prop := fnExactPlainSheetRow.holds Try.pinned (OpenSpec.ofChange fnExactPlainSheetSpec)

/-- ITS FALSE NEIGHBOUR: 'it returns false'. Refute it at one input. -/
def fnExactPlainSheetWrong : ChangeSpec := { name := "fnExactPlainSheet", fn := fun _ => fun
  | [d1, d2, d3, d4] => { results := [.lit (.bool false)], args := [d1, d2, d3, d4] }
  | _ => none }
def FnExactPlainSheetWrongFalsely : Prop := fnExactPlainSheetRow.holds Try.pinned (OpenSpec.ofChange fnExactPlainSheetWrong)

/-- 'laws.FnExactIsField': WHATEVER THE INPUT: true; the input reads as it did. -/
def fnExactIsFieldSpec : ChangeSpec := { name := "fnExactIsField", fn := fun _ => fun
  | [d1, d2] => { results := [.lit (.bool true)], args := [d1, d2] }
  | _ => none }
def fnExactIsFieldRow : OpenClaim := { program := "ytabhjnpmmjmaiab", sum := "c5d464db667fa5403e690d47e5e949252c5a5d1f244541c086a9a19ae980fb5a", func := "loop.example/g01201/laws.FnExactIsField", spec := "fnExactIsField", unfollowed := true, recurses := true, apart := false }
def FnExactIsFieldSaid : Prop := fnExactIsFieldRow.holds Try.pinned (OpenSpec.ofChange fnExactIsFieldSpec)

/-- ITS FALSE NEIGHBOUR: 'it returns false'. Refute it at one input. -/
def fnExactIsFieldWrong : ChangeSpec := { name := "fnExactIsField", fn := fun _ => fun
  | [d1, d2] => { results := [.lit (.bool false)], args := [d1, d2] }
  | _ => none }
def FnExactIsFieldWrongFalsely : Prop := fnExactIsFieldRow.holds Try.pinned (OpenSpec.ofChange fnExactIsFieldWrong)

/-- 'laws.FnExactSameField': WHATEVER THE INPUT: true; the input reads as it did. -/
def fnExactSameFieldSpec : ChangeSpec := { name := "fnExactSameField", fn := fun _ => fun
  | [d1, d2] => { results := [.lit (.bool true)], args := [d1, d2] }
  | _ => none }
def fnExactSameFieldRow : OpenClaim := { program := "ytabhjnpmmjmaiab", sum := "c5d464db667fa5403e690d47e5e949252c5a5d1f244541c086a9a19ae980fb5a", func := "loop.example/g01201/laws.FnExactSameField", spec := "fnExactSameField", inPlace := ["math.Float32bits"], unfollowed := true, recurses := true, apart := false }
def FnExactSameFieldSaid : Prop := fnExactSameFieldRow.holds Try.pinned (OpenSpec.ofChange fnExactSameFieldSpec)

/-- ITS FALSE NEIGHBOUR: 'it returns false'. Refute it at one input. -/
def fnExactSameFieldWrong : ChangeSpec := { name := "fnExactSameField", fn := fun _ => fun
  | [d1, d2] => { results := [.lit (.bool false)], args := [d1, d2] }
  | _ => none }
def FnExactSameFieldWrongFalsely : Prop := fnExactSameFieldRow.holds Try.pinned (OpenSpec.ofChange fnExactSameFieldWrong)

/-- 'laws.FnExactZeroField': WHATEVER THE INPUT: true; the input reads as it did. -/
def fnExactZeroFieldSpec : ChangeSpec := { name := "fnExactZeroField", fn := fun _ => fun
  | [d] => { results := [.lit (.bool true)], args := [d] }
  | _ => none }
def fnExactZeroFieldRow : OpenClaim := { program := "ytabhjnpmmjmaiab", sum := "c5d464db667fa5403e690d47e5e949252c5a5d1f244541c086a9a19ae980fb5a", func := "loop.example/g01201/laws.FnExactZeroField", spec := "fnExactZeroField", unfollowed := true, recurses := true, apart := false }
def FnExactZeroFieldSaid : Prop := fnExactZeroFieldRow.holds Try.pinned (OpenSpec.ofChange fnExactZeroFieldSpec)

/-- ITS FALSE NEIGHBOUR: 'it returns false'. Refute it at one input. -/
def fnExactZeroFieldWrong : ChangeSpec := { name := "fnExactZeroField", fn := fun _ => fun
  | [d] => { results := [.lit (.bool false)], args := [d] }
  | _ => none }
def FnExactZeroFieldWrongFalsely : Prop := fnExactZeroFieldRow.holds Try.pinned (OpenSpec.ofChange fnExactZeroFieldWrong)

/-- 'laws.FnExactValueAt': WHATEVER THE INPUT: true; the input reads as it did. -/
def fnExactValueAtSpec : ChangeSpec := { name := "fnExactValueAt", fn := fun _ => fun
  | [d1, d2, d3, d4] => { results := [.lit (.bool true)], args := [d1, d2, d3, d4] }
  | _ => none }
def fnExactValueAtRow : OpenClaim := { program := "ytabhjnpmmjmaiab", sum := "c5d464db667fa5403e690d47e5e949252c5a5d1f244541c086a9a19ae980fb5a", func := "loop.example/g01201/laws.FnExactValueAt", spec := "fnExactValueAt", unfollowed := true, recurses := true, apart := false }
def FnExactValueAtSaid : Prop := fnExactValueAtRow.holds Try.pinned (OpenSpec.ofChange fnExactValueAtSpec)

/-- ITS FALSE NEIGHBOUR: 'it returns false'. Refute it at one input. -/
def fnExactValueAtWrong : ChangeSpec := { name := "fnExactValueAt", fn := fun _ => fun
  | [d1, d2, d3, d4] => { results := [.lit (.bool false)], args := [d1, d2, d3, d4] }
  | _ => none }
def FnExactValueAtWrongFalsely : Prop := fnExactValueAtRow.holds Try.pinned (OpenSpec.ofChange fnExactValueAtWrong)

/-- 'laws.FnExactPutValue': WHATEVER THE INPUT: true; the input reads as it did. -/
def fnExactPutValueSpec : ChangeSpec := { name := "fnExactPutValue", fn := fun _ => fun
  | [d1, d2, d3, d4, d5] => { results := [.lit (.bool true)], args := [d1, d2, d3, d4, d5] }
  | _ => none }
def fnExactPutValueRow : OpenClaim := { program := "ytabhjnpmmjmaiab", sum := "c5d464db667fa5403e690d47e5e949252c5a5d1f244541c086a9a19ae980fb5a", func := "loop.example/g01201/laws.FnExactPutValue", spec := "fnExactPutValue", unfollowed := true, recurses := true, apart := false }
def FnExactPutValueSaid : Prop := fnExactPutValueRow.holds Try.pinned (OpenSpec.ofChange fnExactPutValueSpec)

/-- ITS FALSE NEIGHBOUR: 'it returns false'. Refute it at one input. -/
def fnExactPutValueWrong : ChangeSpec := { name := "fnExactPutValue", fn := fun _ => fun
  | [d1, d2, d3, d4, d5] => { results := [.lit (.bool false)], args := [d1, d2, d3, d4, d5] }
  | _ => none }
def FnExactPutValueWrongFalsely : Prop := fnExactPutValueRow.holds Try.pinned (OpenSpec.ofChange fnExactPutValueWrong)

/-- 'laws.FnExactAddFields': WHATEVER THE INPUT: true; the input reads as it did. -/
def fnExactAddFieldsSpec : ChangeSpec := { name := "fnExactAddFields", fn := fun _ => fun
  | [d1, d2, d3] => { results := [.lit (.bool true)], args := [d1, d2, d3] }
  | _ => none }
def fnExactAddFieldsRow : OpenClaim := { program := "ytabhjnpmmjmaiab", sum := "c5d464db667fa5403e690d47e5e949252c5a5d1f244541c086a9a19ae980fb5a", func := "loop.example/g01201/laws.FnExactAddFields", spec := "fnExactAddFields", unfollowed := true, recurses := true, apart := false }
def FnExactAddFieldsSaid : Prop := fnExactAddFieldsRow.holds Try.pinned (OpenSpec.ofChange fnExactAddFieldsSpec)

/-- ITS FALSE NEIGHBOUR: 'it returns false'. Refute it at one input. -/
def fnExactAddFieldsWrong : ChangeSpec := { name := "fnExactAddFields", fn := fun _ => fun
  | [d1, d2, d3] => { results := [.lit (.bool false)], args := [d1, d2, d3] }
  | _ => none }
def FnExactAddFieldsWrongFalsely : Prop := fnExactAddFieldsRow.holds Try.pinned (OpenSpec.ofChange fnExactAddFieldsWrong)

/-- 'laws.FnExactScaleField': WHATEVER THE INPUT: true; the input reads as it did. -/
def fnExactScaleFieldSpec : ChangeSpec := { name := "fnExactScaleField", fn := fun _ => fun
  | [d1, d2, d3] => { results := [.lit (.bool true)], args := [d1, d2, d3] }
  | _ => none }
def fnExactScaleFieldRow : OpenClaim := { program := "ytabhjnpmmjmaiab", sum := "c5d464db667fa5403e690d47e5e949252c5a5d1f244541c086a9a19ae980fb5a", func := "loop.example/g01201/laws.FnExactScaleField", spec := "fnExactScaleField", unfollowed := true, recurses := true, apart := false }
def FnExactScaleFieldSaid : Prop := fnExactScaleFieldRow.holds Try.pinned (OpenSpec.ofChange fnExactScaleFieldSpec)

/-- ITS FALSE NEIGHBOUR: 'it returns false'. Refute it at one input. -/
def fnExactScaleFieldWrong : ChangeSpec := { name := "fnExactScaleField", fn := fun _ => fun
  | [d1, d2, d3] => { results := [.lit (.bool false)], args := [d1, d2, d3] }
  | _ => none }
def FnExactScaleFieldWrongFalsely : Prop := fnExactScaleFieldRow.holds Try.pinned (OpenSpec.ofChange fnExactScaleFieldWrong)

/-- 'laws.FnExactMirrorSheet': WHATEVER THE INPUT: true; the input reads as it did. -/
def fnExactMirrorSheetSpec : ChangeSpec := { name := "fnExactMirrorSheet", fn := fun _ => fun
  | [d] => { results := [.lit (.bool true)], args := [d] }
  | _ => none }
def fnExactMirrorSheetRow : OpenClaim := { program := "ytabhjnpmmjmaiab", sum := "c5d464db667fa5403e690d47e5e949252c5a5d1f244541c086a9a19ae980fb5a", func := "loop.example/g01201/laws.FnExactMirrorSheet", spec := "fnExactMirrorSheet", unfollowed := true, recurses := true, apart := false }
def FnExactMirrorSheetSaid : Prop := fnExactMirrorSheetRow.holds Try.pinned (OpenSpec.ofChange fnExactMirrorSheetSpec)

/-- ITS FALSE NEIGHBOUR: 'it returns false'. Refute it at one input. -/
def fnExactMirrorSheetWrong : ChangeSpec := { name := "fnExactMirrorSheet", fn := fun _ => fun
  | [d] => { results := [.lit (.bool false)], args := [d] }
  | _ => none }
def FnExactMirrorSheetWrongFalsely : Prop := fnExactMirrorSheetRow.holds Try.pinned (OpenSpec.ofChange fnExactMirrorSheetWrong)

/-- 'laws.FnExactMirrorField': WHATEVER THE INPUT: true; the input reads as it did. -/
def fnExactMirrorFieldSpec : ChangeSpec := { name := "fnExactMirrorField", fn := fun _ => fun
  | [d1, d2] => { results := [.lit (.bool true)], args := [d1, d2] }
  | _ => none }
def fnExactMirrorFieldRow : OpenClaim := { program := "ytabhjnpmmjmaiab", sum := "c5d464db667fa5403e690d47e5e949252c5a5d1f244541c086a9a19ae980fb5a", func := "loop.example/g01201/laws.FnExactMirrorField", spec := "fnExactMirrorField", unfollowed := true, recurses := true, apart := false }
def FnExactMirrorFieldSaid : Prop := fnExactMirrorFieldRow.holds Try.pinned (OpenSpec.ofChange fnExactMirrorFieldSpec)

/-- ITS FALSE NEIGHBOUR: 'it returns false'. Refute it at one input. -/
def fnExactMirrorFieldWrong : ChangeSpec := { name := "fnExactMirrorField", fn := fun _ => fun
  | [d1, d2] => { results := [.lit (.bool false)], args := [d1, d2] }
  | _ => none }
def FnExactMirrorFieldWrongFalsely : Prop := fnExactMirrorFieldRow.holds Try.pinned (OpenSpec.ofChange fnExactMirrorFieldWrong)

/- THE SECOND FORM. 'bulk': how many values and letters a reading holds, each counted each time it is reached (what is shared counts as often as it is met; a slice's spare places count too). A statement '..UptoSaid' is the law's where the arguments, and the package variables that the reading takes, are together of bulk at most 1048576: NARROWER than '..Said'. Prove '..Said' where nothing that the law and all that it calls make is longer than what came in: it says more and counts as full. Else prove '..UptoSaid'. A law counts once. -/
mutual
def uptoBulk {H : Type} : DataW H → Nat
  | .lit (.string bytes) => bytes.length + 1
  | .lit _ => 1
  | .nil => 1
  | .ptr d => uptoBulk d + 1
  | .slice elems spare => uptoBulkAll elems + uptoBulkAll spare + 1
  | .agg parts => uptoBulkAll parts + 1
  | .iface _ d => uptoBulk d + 1
  | .map entries => uptoBulkEntries entries + 1
  | .held _ => 1
def uptoBulkAll {H : Type} : List (DataW H) → Nat
  | [] => 0
  | d :: r => uptoBulk d + uptoBulkAll r
def uptoBulkEntries {H : Type} : List (Lit × DataW H) → Nat
  | [] => 0
  | x :: r => uptoBulkEntry x + uptoBulkEntries r
def uptoBulkEntry {H : Type} : Lit × DataW H → Nat
  | (.string bytes, d) => bytes.length + uptoBulk d + 1
  | (_, d) => uptoBulk d + 1
 end
def uptoSmall : (H : Type) → List (DataW H) → Bool := fun _ ds => decide (uptoBulkAll ds ≤ 1048576)
def OpenSpec.upto (s : _root_.Go.ChangeSpec) : _root_.Go.OpenSpec := { _root_.Go.OpenSpec.ofChange s with cond := some uptoSmall }

/-- 'laws.FnExactValidSheet', WHERE WHAT IT READS IS OF BULK AT MOST 1048576: true; the input reads as it did. -/
def fnExactValidSheetUptoRow : OpenClaim := { program := "ytabhjnpmmjmaiab", sum := "c5d464db667fa5403e690d47e5e949252c5a5d1f244541c086a9a19ae980fb5a", func := "loop.example/g01201/laws.FnExactValidSheet", spec := "fnExactValidSheet", unfollowed := true, recurses := true, apart := false, narrowed := true }
def FnExactValidSheetUptoSaid : Prop := fnExactValidSheetUptoRow.holds Try.pinned (OpenSpec.upto fnExactValidSheetSpec)

/-- 'laws.FnExactSameSheet', WHERE WHAT IT READS IS OF BULK AT MOST 1048576: true; the input reads as it did. -/
def fnExactSameSheetUptoRow : OpenClaim := { program := "ytabhjnpmmjmaiab", sum := "c5d464db667fa5403e690d47e5e949252c5a5d1f244541c086a9a19ae980fb5a", func := "loop.example/g01201/laws.FnExactSameSheet", spec := "fnExactSameSheet", inPlace := ["math.Float32bits"], unfollowed := true, recurses := true, apart := false, narrowed := true }
def FnExactSameSheetUptoSaid : Prop := fnExactSameSheetUptoRow.holds Try.pinned (OpenSpec.upto fnExactSameSheetSpec)

/-- 'laws.FnExactPlainSheet', WHERE WHAT IT READS IS OF BULK AT MOST 1048576: true; the input reads as it did. -/
def fnExactPlainSheetUptoRow : OpenClaim := { program := "ytabhjnpmmjmaiab", sum := "c5d464db667fa5403e690d47e5e949252c5a5d1f244541c086a9a19ae980fb5a", func := "loop.example/g01201/laws.FnExactPlainSheet", spec := "fnExactPlainSheet", apart := false, narrowed := true }
def FnExactPlainSheetUptoSaid : Prop := fnExactPlainSheetUptoRow.holds Try.pinned (OpenSpec.upto fnExactPlainSheetSpec)

/-- 'laws.FnExactIsField', WHERE WHAT IT READS IS OF BULK AT MOST 1048576: true; the input reads as it did. -/
def fnExactIsFieldUptoRow : OpenClaim := { program := "ytabhjnpmmjmaiab", sum := "c5d464db667fa5403e690d47e5e949252c5a5d1f244541c086a9a19ae980fb5a", func := "loop.example/g01201/laws.FnExactIsField", spec := "fnExactIsField", unfollowed := true, recurses := true, apart := false, narrowed := true }
def FnExactIsFieldUptoSaid : Prop := fnExactIsFieldUptoRow.holds Try.pinned (OpenSpec.upto fnExactIsFieldSpec)

/-- 'laws.FnExactSameField', WHERE WHAT IT READS IS OF BULK AT MOST 1048576: true; the input reads as it did. -/
def fnExactSameFieldUptoRow : OpenClaim := { program := "ytabhjnpmmjmaiab", sum := "c5d464db667fa5403e690d47e5e949252c5a5d1f244541c086a9a19ae980fb5a", func := "loop.example/g01201/laws.FnExactSameField", spec := "fnExactSameField", inPlace := ["math.Float32bits"], unfollowed := true, recurses := true, apart := false, narrowed := true }
def FnExactSameFieldUptoSaid : Prop := fnExactSameFieldUptoRow.holds Try.pinned (OpenSpec.upto fnExactSameFieldSpec)

/-- 'laws.FnExactZeroField', WHERE WHAT IT READS IS OF BULK AT MOST 1048576: true; the input reads as it did. -/
def fnExactZeroFieldUptoRow : OpenClaim := { program := "ytabhjnpmmjmaiab", sum := "c5d464db667fa5403e690d47e5e949252c5a5d1f244541c086a9a19ae980fb5a", func := "loop.example/g01201/laws.FnExactZeroField", spec := "fnExactZeroField", unfollowed := true, recurses := true, apart := false, narrowed := true }
def FnExactZeroFieldUptoSaid : Prop := fnExactZeroFieldUptoRow.holds Try.pinned (OpenSpec.upto fnExactZeroFieldSpec)

/-- 'laws.FnExactValueAt', WHERE WHAT IT READS IS OF BULK AT MOST 1048576: true; the input reads as it did. -/
def fnExactValueAtUptoRow : OpenClaim := { program := "ytabhjnpmmjmaiab", sum := "c5d464db667fa5403e690d47e5e949252c5a5d1f244541c086a9a19ae980fb5a", func := "loop.example/g01201/laws.FnExactValueAt", spec := "fnExactValueAt", unfollowed := true, recurses := true, apart := false, narrowed := true }
def FnExactValueAtUptoSaid : Prop := fnExactValueAtUptoRow.holds Try.pinned (OpenSpec.upto fnExactValueAtSpec)

/-- 'laws.FnExactPutValue', WHERE WHAT IT READS IS OF BULK AT MOST 1048576: true; the input reads as it did. -/
def fnExactPutValueUptoRow : OpenClaim := { program := "ytabhjnpmmjmaiab", sum := "c5d464db667fa5403e690d47e5e949252c5a5d1f244541c086a9a19ae980fb5a", func := "loop.example/g01201/laws.FnExactPutValue", spec := "fnExactPutValue", unfollowed := true, recurses := true, apart := false, narrowed := true }
def FnExactPutValueUptoSaid : Prop := fnExactPutValueUptoRow.holds Try.pinned (OpenSpec.upto fnExactPutValueSpec)

/-- 'laws.FnExactAddFields', WHERE WHAT IT READS IS OF BULK AT MOST 1048576: true; the input reads as it did. -/
def fnExactAddFieldsUptoRow : OpenClaim := { program := "ytabhjnpmmjmaiab", sum := "c5d464db667fa5403e690d47e5e949252c5a5d1f244541c086a9a19ae980fb5a", func := "loop.example/g01201/laws.FnExactAddFields", spec := "fnExactAddFields", unfollowed := true, recurses := true, apart := false, narrowed := true }
def FnExactAddFieldsUptoSaid : Prop := fnExactAddFieldsUptoRow.holds Try.pinned (OpenSpec.upto fnExactAddFieldsSpec)

/-- 'laws.FnExactScaleField', WHERE WHAT IT READS IS OF BULK AT MOST 1048576: true; the input reads as it did. -/
def fnExactScaleFieldUptoRow : OpenClaim := { program := "ytabhjnpmmjmaiab", sum := "c5d464db667fa5403e690d47e5e949252c5a5d1f244541c086a9a19ae980fb5a", func := "loop.example/g01201/laws.FnExactScaleField", spec := "fnExactScaleField", unfollowed := true, recurses := true, apart := false, narrowed := true }
def FnExactScaleFieldUptoSaid : Prop := fnExactScaleFieldUptoRow.holds Try.pinned (OpenSpec.upto fnExactScaleFieldSpec)

/-- 'laws.FnExactMirrorSheet', WHERE WHAT IT READS IS OF BULK AT MOST 1048576: true; the input reads as it did. -/
def fnExactMirrorSheetUptoRow : OpenClaim := { program := "ytabhjnpmmjmaiab", sum := "c5d464db667fa5403e690d47e5e949252c5a5d1f244541c086a9a19ae980fb5a", func := "loop.example/g01201/laws.FnExactMirrorSheet", spec := "fnExactMirrorSheet", unfollowed := true, recurses := true, apart := false, narrowed := true }
def FnExactMirrorSheetUptoSaid : Prop := fnExactMirrorSheetUptoRow.holds Try.pinned (OpenSpec.upto fnExactMirrorSheetSpec)

/-- 'laws.FnExactMirrorField', WHERE WHAT IT READS IS OF BULK AT MOST 1048576: true; the input reads as it did. -/
def fnExactMirrorFieldUptoRow : OpenClaim := { program := "ytabhjnpmmjmaiab", sum := "c5d464db667fa5403e690d47e5e949252c5a5d1f244541c086a9a19ae980fb5a", func := "loop.example/g01201/laws.FnExactMirrorField", spec := "fnExactMirrorField", unfollowed := true, recurses := true, apart := false, narrowed := true }
def FnExactMirrorFieldUptoSaid : Prop := fnExactMirrorFieldUptoRow.holds Try.pinned (OpenSpec.upto fnExactMirrorFieldSpec)

end Rows
end Go.Proofs.Ytabhjnpmmjmaiab
