/-
  No cell of these rows narrows 'for every input' (looked for: loops, veiled, ifaces, maps, wideKeys, modest, calm, conditions, laid).
  DERIVED. THE GIVEN ROWS OF THIS SEAT. 12 by the template 'for every input the law returns true; each argument reads behind the call as it read before'; 0 by the template 'total and deterministic' (their statements: YtpnfgchifclhlaaTotals.lean).
  GIVEN WITH THE SEED: the statements are not yours to turn. If you find one false, say at which input.
  Laid BY PROGRAM, IN A SANDBOX (cutbox-rows.mjs): the forced cells as the released guide's own fill.sh prints them over the translation 6487d03e837d3f25… (all of the seat's roots in one cut). By AI agents, Wed Nov 11 2026. No macro, syntax, notation, axiom, sorry.
-/
import Derived.Test.YtpnfgchifclhlaaChecked
import GoSem.Claim
import GoSem.ClaimJoined
import GoSem.ClaimMapViews
import Derived.JoinedTies
import Derived.KernelRfl
namespace Go.Proofs.Ytpnfgchifclhlaa
/- THE CELL 'sum', in the pinned program and in every row, IS THE sha256 OF THE DUMP (.gsa) THAT YtpnfgchifclhlaaProg.lean LOADS. Nothing in Lean hashes anything: it is a label: what it is worth is what the hold of that sum in a sandbox is worth. -/
noncomputable def Try.pinned : Pinned := { name := "ytpnfgchifclhlaa", sum := "6487d03e837d3f254cc6e800f67f239b2ef8d3823aaad2af7e35ebdc0f6cd107", checked := Try.checked }
namespace Rows
def none {H : Type} : Left H := { results := [], args := [] }

/-- 'laws.FnExactSameSheet': WHATEVER THE INPUT: true; the input reads as it did. -/
def fnExactSameSheetSpec : ChangeSpec := { name := "fnExactSameSheet", fn := fun _ => fun
  | [d1, d2] => { results := [.lit (.bool true)], args := [d1, d2] }
  | _ => none }
def fnExactSameSheetRow : OpenClaim := { program := "ytpnfgchifclhlaa", sum := "6487d03e837d3f254cc6e800f67f239b2ef8d3823aaad2af7e35ebdc0f6cd107", func := "loop.example/g01201/laws.FnExactSameSheet", spec := "fnExactSameSheet", inPlace := ["math.Float32bits"], unfollowed := true, recurses := true, apart := false }
def FnExactSameSheetSaid : Prop := fnExactSameSheetRow.holds Try.pinned (OpenSpec.ofChange fnExactSameSheetSpec)

/-- ITS FALSE NEIGHBOUR: 'it returns false'. Refute it at one input. -/
def fnExactSameSheetWrong : ChangeSpec := { name := "fnExactSameSheet", fn := fun _ => fun
  | [d1, d2] => { results := [.lit (.bool false)], args := [d1, d2] }
  | _ => none }
def FnExactSameSheetWrongFalsely : Prop := fnExactSameSheetRow.holds Try.pinned (OpenSpec.ofChange fnExactSameSheetWrong)

/-- 'laws.FnExactPlainSheet': WHATEVER THE INPUT: true; the input reads as it did. -/
def fnExactPlainSheetSpec : ChangeSpec := { name := "fnExactPlainSheet", fn := fun _ => fun
  | [d1, d2, d3, d4] => { results := [.lit (.bool true)], args := [d1, d2, d3, d4] }
  | _ => none }
def fnExactPlainSheetRow : OpenClaim := { program := "ytpnfgchifclhlaa", sum := "6487d03e837d3f254cc6e800f67f239b2ef8d3823aaad2af7e35ebdc0f6cd107", func := "loop.example/g01201/laws.FnExactPlainSheet", spec := "fnExactPlainSheet", apart := false }
def FnExactPlainSheetSaid : Prop := fnExactPlainSheetRow.holds Try.pinned (OpenSpec.ofChange fnExactPlainSheetSpec)

/-- ITS FALSE NEIGHBOUR: 'it returns false'. Refute it at one input. -/
def fnExactPlainSheetWrong : ChangeSpec := { name := "fnExactPlainSheet", fn := fun _ => fun
  | [d1, d2, d3, d4] => { results := [.lit (.bool false)], args := [d1, d2, d3, d4] }
  | _ => none }
def FnExactPlainSheetWrongFalsely : Prop := fnExactPlainSheetRow.holds Try.pinned (OpenSpec.ofChange fnExactPlainSheetWrong)

/-- 'laws.FnExactSameField': WHATEVER THE INPUT: true; the input reads as it did. -/
def fnExactSameFieldSpec : ChangeSpec := { name := "fnExactSameField", fn := fun _ => fun
  | [d1, d2] => { results := [.lit (.bool true)], args := [d1, d2] }
  | _ => none }
def fnExactSameFieldRow : OpenClaim := { program := "ytpnfgchifclhlaa", sum := "6487d03e837d3f254cc6e800f67f239b2ef8d3823aaad2af7e35ebdc0f6cd107", func := "loop.example/g01201/laws.FnExactSameField", spec := "fnExactSameField", inPlace := ["math.Float32bits"], unfollowed := true, recurses := true, apart := false }
def FnExactSameFieldSaid : Prop := fnExactSameFieldRow.holds Try.pinned (OpenSpec.ofChange fnExactSameFieldSpec)

/-- ITS FALSE NEIGHBOUR: 'it returns false'. Refute it at one input. -/
def fnExactSameFieldWrong : ChangeSpec := { name := "fnExactSameField", fn := fun _ => fun
  | [d1, d2] => { results := [.lit (.bool false)], args := [d1, d2] }
  | _ => none }
def FnExactSameFieldWrongFalsely : Prop := fnExactSameFieldRow.holds Try.pinned (OpenSpec.ofChange fnExactSameFieldWrong)

/-- 'laws.FnExactAddFields': WHATEVER THE INPUT: true; the input reads as it did. -/
def fnExactAddFieldsSpec : ChangeSpec := { name := "fnExactAddFields", fn := fun _ => fun
  | [d1, d2, d3] => { results := [.lit (.bool true)], args := [d1, d2, d3] }
  | _ => none }
def fnExactAddFieldsRow : OpenClaim := { program := "ytpnfgchifclhlaa", sum := "6487d03e837d3f254cc6e800f67f239b2ef8d3823aaad2af7e35ebdc0f6cd107", func := "loop.example/g01201/laws.FnExactAddFields", spec := "fnExactAddFields", unfollowed := true, recurses := true, apart := false }
def FnExactAddFieldsSaid : Prop := fnExactAddFieldsRow.holds Try.pinned (OpenSpec.ofChange fnExactAddFieldsSpec)

/-- ITS FALSE NEIGHBOUR: 'it returns false'. Refute it at one input. -/
def fnExactAddFieldsWrong : ChangeSpec := { name := "fnExactAddFields", fn := fun _ => fun
  | [d1, d2, d3] => { results := [.lit (.bool false)], args := [d1, d2, d3] }
  | _ => none }
def FnExactAddFieldsWrongFalsely : Prop := fnExactAddFieldsRow.holds Try.pinned (OpenSpec.ofChange fnExactAddFieldsWrong)

/-- 'laws.FnExactScaleField': WHATEVER THE INPUT: true; the input reads as it did. -/
def fnExactScaleFieldSpec : ChangeSpec := { name := "fnExactScaleField", fn := fun _ => fun
  | [d1, d2, d3] => { results := [.lit (.bool true)], args := [d1, d2, d3] }
  | _ => none }
def fnExactScaleFieldRow : OpenClaim := { program := "ytpnfgchifclhlaa", sum := "6487d03e837d3f254cc6e800f67f239b2ef8d3823aaad2af7e35ebdc0f6cd107", func := "loop.example/g01201/laws.FnExactScaleField", spec := "fnExactScaleField", unfollowed := true, recurses := true, apart := false }
def FnExactScaleFieldSaid : Prop := fnExactScaleFieldRow.holds Try.pinned (OpenSpec.ofChange fnExactScaleFieldSpec)

/-- ITS FALSE NEIGHBOUR: 'it returns false'. Refute it at one input. -/
def fnExactScaleFieldWrong : ChangeSpec := { name := "fnExactScaleField", fn := fun _ => fun
  | [d1, d2, d3] => { results := [.lit (.bool false)], args := [d1, d2, d3] }
  | _ => none }
def FnExactScaleFieldWrongFalsely : Prop := fnExactScaleFieldRow.holds Try.pinned (OpenSpec.ofChange fnExactScaleFieldWrong)

/-- 'laws.FnExactMirrorSheet': WHATEVER THE INPUT: true; the input reads as it did. -/
def fnExactMirrorSheetSpec : ChangeSpec := { name := "fnExactMirrorSheet", fn := fun _ => fun
  | [d] => { results := [.lit (.bool true)], args := [d] }
  | _ => none }
def fnExactMirrorSheetRow : OpenClaim := { program := "ytpnfgchifclhlaa", sum := "6487d03e837d3f254cc6e800f67f239b2ef8d3823aaad2af7e35ebdc0f6cd107", func := "loop.example/g01201/laws.FnExactMirrorSheet", spec := "fnExactMirrorSheet", unfollowed := true, recurses := true, apart := false }
def FnExactMirrorSheetSaid : Prop := fnExactMirrorSheetRow.holds Try.pinned (OpenSpec.ofChange fnExactMirrorSheetSpec)

/-- ITS FALSE NEIGHBOUR: 'it returns false'. Refute it at one input. -/
def fnExactMirrorSheetWrong : ChangeSpec := { name := "fnExactMirrorSheet", fn := fun _ => fun
  | [d] => { results := [.lit (.bool false)], args := [d] }
  | _ => none }
def FnExactMirrorSheetWrongFalsely : Prop := fnExactMirrorSheetRow.holds Try.pinned (OpenSpec.ofChange fnExactMirrorSheetWrong)

/-- 'laws.FnExactMirrorField': WHATEVER THE INPUT: true; the input reads as it did. -/
def fnExactMirrorFieldSpec : ChangeSpec := { name := "fnExactMirrorField", fn := fun _ => fun
  | [d1, d2] => { results := [.lit (.bool true)], args := [d1, d2] }
  | _ => none }
def fnExactMirrorFieldRow : OpenClaim := { program := "ytpnfgchifclhlaa", sum := "6487d03e837d3f254cc6e800f67f239b2ef8d3823aaad2af7e35ebdc0f6cd107", func := "loop.example/g01201/laws.FnExactMirrorField", spec := "fnExactMirrorField", unfollowed := true, recurses := true, apart := false }
def FnExactMirrorFieldSaid : Prop := fnExactMirrorFieldRow.holds Try.pinned (OpenSpec.ofChange fnExactMirrorFieldSpec)

/-- ITS FALSE NEIGHBOUR: 'it returns false'. Refute it at one input. -/
def fnExactMirrorFieldWrong : ChangeSpec := { name := "fnExactMirrorField", fn := fun _ => fun
  | [d1, d2] => { results := [.lit (.bool false)], args := [d1, d2] }
  | _ => none }
def FnExactMirrorFieldWrongFalsely : Prop := fnExactMirrorFieldRow.holds Try.pinned (OpenSpec.ofChange fnExactMirrorFieldWrong)

/-- 'laws.FnExactSwapSheet': WHATEVER THE INPUT: true; the input reads as it did. -/
def fnExactSwapSheetSpec : ChangeSpec := { name := "fnExactSwapSheet", fn := fun _ => fun
  | [d] => { results := [.lit (.bool true)], args := [d] }
  | _ => none }
def fnExactSwapSheetRow : OpenClaim := { program := "ytpnfgchifclhlaa", sum := "6487d03e837d3f254cc6e800f67f239b2ef8d3823aaad2af7e35ebdc0f6cd107", func := "loop.example/g01201/laws.FnExactSwapSheet", spec := "fnExactSwapSheet", unfollowed := true, recurses := true, apart := false }
def FnExactSwapSheetSaid : Prop := fnExactSwapSheetRow.holds Try.pinned (OpenSpec.ofChange fnExactSwapSheetSpec)

/-- ITS FALSE NEIGHBOUR: 'it returns false'. Refute it at one input. -/
def fnExactSwapSheetWrong : ChangeSpec := { name := "fnExactSwapSheet", fn := fun _ => fun
  | [d] => { results := [.lit (.bool false)], args := [d] }
  | _ => none }
def FnExactSwapSheetWrongFalsely : Prop := fnExactSwapSheetRow.holds Try.pinned (OpenSpec.ofChange fnExactSwapSheetWrong)

/-- 'laws.FnExactSwapField': WHATEVER THE INPUT: true; the input reads as it did. -/
def fnExactSwapFieldSpec : ChangeSpec := { name := "fnExactSwapField", fn := fun _ => fun
  | [d1, d2] => { results := [.lit (.bool true)], args := [d1, d2] }
  | _ => none }
def fnExactSwapFieldRow : OpenClaim := { program := "ytpnfgchifclhlaa", sum := "6487d03e837d3f254cc6e800f67f239b2ef8d3823aaad2af7e35ebdc0f6cd107", func := "loop.example/g01201/laws.FnExactSwapField", spec := "fnExactSwapField", unfollowed := true, recurses := true, apart := false }
def FnExactSwapFieldSaid : Prop := fnExactSwapFieldRow.holds Try.pinned (OpenSpec.ofChange fnExactSwapFieldSpec)

/-- ITS FALSE NEIGHBOUR: 'it returns false'. Refute it at one input. -/
def fnExactSwapFieldWrong : ChangeSpec := { name := "fnExactSwapField", fn := fun _ => fun
  | [d1, d2] => { results := [.lit (.bool false)], args := [d1, d2] }
  | _ => none }
def FnExactSwapFieldWrongFalsely : Prop := fnExactSwapFieldRow.holds Try.pinned (OpenSpec.ofChange fnExactSwapFieldWrong)

/-- 'laws.FnExactShiftSheet': WHATEVER THE INPUT: true; the input reads as it did. -/
def fnExactShiftSheetSpec : ChangeSpec := { name := "fnExactShiftSheet", fn := fun _ => fun
  | [d1, d2, d3] => { results := [.lit (.bool true)], args := [d1, d2, d3] }
  | _ => none }
def fnExactShiftSheetRow : OpenClaim := { program := "ytpnfgchifclhlaa", sum := "6487d03e837d3f254cc6e800f67f239b2ef8d3823aaad2af7e35ebdc0f6cd107", func := "loop.example/g01201/laws.FnExactShiftSheet", spec := "fnExactShiftSheet", unfollowed := true, recurses := true, apart := false }
def FnExactShiftSheetSaid : Prop := fnExactShiftSheetRow.holds Try.pinned (OpenSpec.ofChange fnExactShiftSheetSpec)

/-- ITS FALSE NEIGHBOUR: 'it returns false'. Refute it at one input. -/
def fnExactShiftSheetWrong : ChangeSpec := { name := "fnExactShiftSheet", fn := fun _ => fun
  | [d1, d2, d3] => { results := [.lit (.bool false)], args := [d1, d2, d3] }
  | _ => none }
def FnExactShiftSheetWrongFalsely : Prop := fnExactShiftSheetRow.holds Try.pinned (OpenSpec.ofChange fnExactShiftSheetWrong)

/-- 'laws.FnExactShiftField': WHATEVER THE INPUT: true; the input reads as it did. -/
def fnExactShiftFieldSpec : ChangeSpec := { name := "fnExactShiftField", fn := fun _ => fun
  | [d1, d2, d3, d4] => { results := [.lit (.bool true)], args := [d1, d2, d3, d4] }
  | _ => none }
def fnExactShiftFieldRow : OpenClaim := { program := "ytpnfgchifclhlaa", sum := "6487d03e837d3f254cc6e800f67f239b2ef8d3823aaad2af7e35ebdc0f6cd107", func := "loop.example/g01201/laws.FnExactShiftField", spec := "fnExactShiftField", unfollowed := true, recurses := true, apart := false }
def FnExactShiftFieldSaid : Prop := fnExactShiftFieldRow.holds Try.pinned (OpenSpec.ofChange fnExactShiftFieldSpec)

/-- ITS FALSE NEIGHBOUR: 'it returns false'. Refute it at one input. -/
def fnExactShiftFieldWrong : ChangeSpec := { name := "fnExactShiftField", fn := fun _ => fun
  | [d1, d2, d3, d4] => { results := [.lit (.bool false)], args := [d1, d2, d3, d4] }
  | _ => none }
def FnExactShiftFieldWrongFalsely : Prop := fnExactShiftFieldRow.holds Try.pinned (OpenSpec.ofChange fnExactShiftFieldWrong)

/-- 'laws.FnExactEnergyOf': WHATEVER THE INPUT: true; the input reads as it did. -/
def fnExactEnergyOfSpec : ChangeSpec := { name := "fnExactEnergyOf", fn := fun _ => fun
  | [d1, d2] => { results := [.lit (.bool true)], args := [d1, d2] }
  | _ => none }
def fnExactEnergyOfRow : OpenClaim := { program := "ytpnfgchifclhlaa", sum := "6487d03e837d3f254cc6e800f67f239b2ef8d3823aaad2af7e35ebdc0f6cd107", func := "loop.example/g01201/laws.FnExactEnergyOf", spec := "fnExactEnergyOf", unfollowed := true, recurses := true, apart := false }
def FnExactEnergyOfSaid : Prop := fnExactEnergyOfRow.holds Try.pinned (OpenSpec.ofChange fnExactEnergyOfSpec)

/-- ITS FALSE NEIGHBOUR: 'it returns false'. Refute it at one input. -/
def fnExactEnergyOfWrong : ChangeSpec := { name := "fnExactEnergyOf", fn := fun _ => fun
  | [d1, d2] => { results := [.lit (.bool false)], args := [d1, d2] }
  | _ => none }
def FnExactEnergyOfWrongFalsely : Prop := fnExactEnergyOfRow.holds Try.pinned (OpenSpec.ofChange fnExactEnergyOfWrong)

/- THE SECOND FORM. 'bulk': how many values and letters a reading holds, each counted each time it is reached (what is shared counts as often as it is met; a slice's spare places count too). A statement '..UptoSaid' is the law's where the arguments, and the package variables that the reading takes, are together of bulk at most 1048576: NARROWER than '..Said'. Prove '..Said' where nothing that the law and all that it calls make is longer than what came in: it says more and counts as full. Else prove '..UptoSaid'. A law counts once. -/
mutual
def uptoBulk {H : Type} : DataW H → Nat
  | .lit (.string bytes) => bytes.length + 1
  | .lit _ => 1
  | .nil => 1
  | .ptr d => uptoBulk d + 1
  | .slice elems spare => uptoBulkAll elems + uptoBulkAll spare + 1
  | .agg parts => uptoBulkAll parts + 1
  | .iface _ d => uptoBulk d + 1
  | .map entries => uptoBulkEntries entries + 1
  | .held _ => 1
def uptoBulkAll {H : Type} : List (DataW H) → Nat
  | [] => 0
  | d :: r => uptoBulk d + uptoBulkAll r
def uptoBulkEntries {H : Type} : List (Lit × DataW H) → Nat
  | [] => 0
  | x :: r => uptoBulkEntry x + uptoBulkEntries r
def uptoBulkEntry {H : Type} : Lit × DataW H → Nat
  | (.string bytes, d) => bytes.length + uptoBulk d + 1
  | (_, d) => uptoBulk d + 1
 end
def uptoSmall : (H : Type) → List (DataW H) → Bool := fun _ ds => decide (uptoBulkAll ds ≤ 1048576)
def OpenSpec.upto (s : _root_.Go.ChangeSpec) : _root_.Go.OpenSpec := { _root_.Go.OpenSpec.ofChange s with cond := some uptoSmall }

/-- 'laws.FnExactSameSheet', WHERE WHAT IT READS IS OF BULK AT MOST 1048576: true; the input reads as it did. -/
def fnExactSameSheetUptoRow : OpenClaim := { program := "ytpnfgchifclhlaa", sum := "6487d03e837d3f254cc6e800f67f239b2ef8d3823aaad2af7e35ebdc0f6cd107", func := "loop.example/g01201/laws.FnExactSameSheet", spec := "fnExactSameSheet", inPlace := ["math.Float32bits"], unfollowed := true, recurses := true, apart := false, narrowed := true }
def FnExactSameSheetUptoSaid : Prop := fnExactSameSheetUptoRow.holds Try.pinned (OpenSpec.upto fnExactSameSheetSpec)

/-- 'laws.FnExactPlainSheet', WHERE WHAT IT READS IS OF BULK AT MOST 1048576: true; the input reads as it did. -/
def fnExactPlainSheetUptoRow : OpenClaim := { program := "ytpnfgchifclhlaa", sum := "6487d03e837d3f254cc6e800f67f239b2ef8d3823aaad2af7e35ebdc0f6cd107", func := "loop.example/g01201/laws.FnExactPlainSheet", spec := "fnExactPlainSheet", apart := false, narrowed := true }
def FnExactPlainSheetUptoSaid : Prop := fnExactPlainSheetUptoRow.holds Try.pinned (OpenSpec.upto fnExactPlainSheetSpec)

/-- 'laws.FnExactSameField', WHERE WHAT IT READS IS OF BULK AT MOST 1048576: true; the input reads as it did. -/
def fnExactSameFieldUptoRow : OpenClaim := { program := "ytpnfgchifclhlaa", sum := "6487d03e837d3f254cc6e800f67f239b2ef8d3823aaad2af7e35ebdc0f6cd107", func := "loop.example/g01201/laws.FnExactSameField", spec := "fnExactSameField", inPlace := ["math.Float32bits"], unfollowed := true, recurses := true, apart := false, narrowed := true }
def FnExactSameFieldUptoSaid : Prop := fnExactSameFieldUptoRow.holds Try.pinned (OpenSpec.upto fnExactSameFieldSpec)

/-- 'laws.FnExactAddFields', WHERE WHAT IT READS IS OF BULK AT MOST 1048576: true; the input reads as it did. -/
def fnExactAddFieldsUptoRow : OpenClaim := { program := "ytpnfgchifclhlaa", sum := "6487d03e837d3f254cc6e800f67f239b2ef8d3823aaad2af7e35ebdc0f6cd107", func := "loop.example/g01201/laws.FnExactAddFields", spec := "fnExactAddFields", unfollowed := true, recurses := true, apart := false, narrowed := true }
def FnExactAddFieldsUptoSaid : Prop := fnExactAddFieldsUptoRow.holds Try.pinned (OpenSpec.upto fnExactAddFieldsSpec)

/-- 'laws.FnExactScaleField', WHERE WHAT IT READS IS OF BULK AT MOST 1048576: true; the input reads as it did. -/
def fnExactScaleFieldUptoRow : OpenClaim := { program := "ytpnfgchifclhlaa", sum := "6487d03e837d3f254cc6e800f67f239b2ef8d3823aaad2af7e35ebdc0f6cd107", func := "loop.example/g01201/laws.FnExactScaleField", spec := "fnExactScaleField", unfollowed := true, recurses := true, apart := false, narrowed := true }
def FnExactScaleFieldUptoSaid : Prop := fnExactScaleFieldUptoRow.holds Try.pinned (OpenSpec.upto fnExactScaleFieldSpec)

/-- 'laws.FnExactMirrorSheet', WHERE WHAT IT READS IS OF BULK AT MOST 1048576: true; the input reads as it did. -/
def fnExactMirrorSheetUptoRow : OpenClaim := { program := "ytpnfgchifclhlaa", sum := "6487d03e837d3f254cc6e800f67f239b2ef8d3823aaad2af7e35ebdc0f6cd107", func := "loop.example/g01201/laws.FnExactMirrorSheet", spec := "fnExactMirrorSheet", unfollowed := true, recurses := true, apart := false, narrowed := true }
def FnExactMirrorSheetUptoSaid : Prop := fnExactMirrorSheetUptoRow.holds Try.pinned (OpenSpec.upto fnExactMirrorSheetSpec)

/-- 'laws.FnExactMirrorField', WHERE WHAT IT READS IS OF BULK AT MOST 1048576: true; the input reads as it did. -/
def fnExactMirrorFieldUptoRow : OpenClaim := { program := "ytpnfgchifclhlaa", sum := "6487d03e837d3f254cc6e800f67f239b2ef8d3823aaad2af7e35ebdc0f6cd107", func := "loop.example/g01201/laws.FnExactMirrorField", spec := "fnExactMirrorField", unfollowed := true, recurses := true, apart := false, narrowed := true }
def FnExactMirrorFieldUptoSaid : Prop := fnExactMirrorFieldUptoRow.holds Try.pinned (OpenSpec.upto fnExactMirrorFieldSpec)

/-- 'laws.FnExactSwapSheet', WHERE WHAT IT READS IS OF BULK AT MOST 1048576: true; the input reads as it did. -/
def fnExactSwapSheetUptoRow : OpenClaim := { program := "ytpnfgchifclhlaa", sum := "6487d03e837d3f254cc6e800f67f239b2ef8d3823aaad2af7e35ebdc0f6cd107", func := "loop.example/g01201/laws.FnExactSwapSheet", spec := "fnExactSwapSheet", unfollowed := true, recurses := true, apart := false, narrowed := true }
def FnExactSwapSheetUptoSaid : Prop := fnExactSwapSheetUptoRow.holds Try.pinned (OpenSpec.upto fnExactSwapSheetSpec)

/-- 'laws.FnExactSwapField', WHERE WHAT IT READS IS OF BULK AT MOST 1048576: true; the input reads as it did. -/
def fnExactSwapFieldUptoRow : OpenClaim := { program := "ytpnfgchifclhlaa", sum := "6487d03e837d3f254cc6e800f67f239b2ef8d3823aaad2af7e35ebdc0f6cd107", func := "loop.example/g01201/laws.FnExactSwapField", spec := "fnExactSwapField", unfollowed := true, recurses := true, apart := false, narrowed := true }
def FnExactSwapFieldUptoSaid : Prop := fnExactSwapFieldUptoRow.holds Try.pinned (OpenSpec.upto fnExactSwapFieldSpec)

/-- 'laws.FnExactShiftSheet', WHERE WHAT IT READS IS OF BULK AT MOST 1048576: true; the input reads as it did. -/
def fnExactShiftSheetUptoRow : OpenClaim := { program := "ytpnfgchifclhlaa", sum := "6487d03e837d3f254cc6e800f67f239b2ef8d3823aaad2af7e35ebdc0f6cd107", func := "loop.example/g01201/laws.FnExactShiftSheet", spec := "fnExactShiftSheet", unfollowed := true, recurses := true, apart := false, narrowed := true }
def FnExactShiftSheetUptoSaid : Prop := fnExactShiftSheetUptoRow.holds Try.pinned (OpenSpec.upto fnExactShiftSheetSpec)

/-- 'laws.FnExactShiftField', WHERE WHAT IT READS IS OF BULK AT MOST 1048576: true; the input reads as it did. -/
def fnExactShiftFieldUptoRow : OpenClaim := { program := "ytpnfgchifclhlaa", sum := "6487d03e837d3f254cc6e800f67f239b2ef8d3823aaad2af7e35ebdc0f6cd107", func := "loop.example/g01201/laws.FnExactShiftField", spec := "fnExactShiftField", unfollowed := true, recurses := true, apart := false, narrowed := true }
def FnExactShiftFieldUptoSaid : Prop := fnExactShiftFieldUptoRow.holds Try.pinned (OpenSpec.upto fnExactShiftFieldSpec)

/-- 'laws.FnExactEnergyOf', WHERE WHAT IT READS IS OF BULK AT MOST 1048576: true; the input reads as it did. -/
def fnExactEnergyOfUptoRow : OpenClaim := { program := "ytpnfgchifclhlaa", sum := "6487d03e837d3f254cc6e800f67f239b2ef8d3823aaad2af7e35ebdc0f6cd107", func := "loop.example/g01201/laws.FnExactEnergyOf", spec := "fnExactEnergyOf", unfollowed := true, recurses := true, apart := false, narrowed := true }
def FnExactEnergyOfUptoSaid : Prop := fnExactEnergyOfUptoRow.holds Try.pinned (OpenSpec.upto fnExactEnergyOfSpec)

end Rows
end Go.Proofs.Ytpnfgchifclhlaa
