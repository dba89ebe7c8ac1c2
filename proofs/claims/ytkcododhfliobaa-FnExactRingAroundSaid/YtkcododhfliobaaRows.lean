/-
  No cell of these rows narrows 'for every input' (looked for: loops, veiled, ifaces, maps, wideKeys, modest, calm, conditions, laid).
  DERIVED. THE GIVEN ROWS OF THIS SEAT. 10 by the template 'for every input the law returns true; each argument reads behind the call as it read before'; 0 by the template 'total and deterministic' (their statements: YtkcododhfliobaaTotals.lean).
  GIVEN WITH THE SEED: the statements are not yours to turn. If you find one false, say at which input.
  Laid BY PROGRAM, IN A SANDBOX (cutbox-rows.mjs): the forced cells as the released guide's own fill.sh prints them over the translation 53be8e7b1e19cb6a… (all of the seat's roots in one cut). By AI agents, Wed Nov 11 2026. No macro, syntax, notation, axiom, sorry.
-/
import Derived.Test.YtkcododhfliobaaChecked
import GoSem.Claim
import GoSem.ClaimJoined
import GoSem.ClaimMapViews
import Derived.JoinedTies
import Derived.KernelRfl
namespace Go.Proofs.Ytkcododhfliobaa
/- THE CELL 'sum', in the pinned program and in every row, IS THE sha256 OF THE DUMP (.gsa) THAT YtkcododhfliobaaProg.lean LOADS. Nothing in Lean hashes anything: it is a label: what it is worth is what the hold of that sum in a sandbox is worth. -/
noncomputable def Try.pinned : Pinned := { name := "ytkcododhfliobaa", sum := "53be8e7b1e19cb6a7fde57a56a664338412f59d6869616c55b8b323deb3eaffc", checked := Try.checked }
namespace Rows
def none {H : Type} : Left H := { results := [], args := [] }

/-- 'laws.FnExactValidWave': WHATEVER THE INPUT: true; the input reads as it did. -/
def fnExactValidWaveSpec : ChangeSpec := { name := "fnExactValidWave", fn := fun _ => fun
  | [d] => { results := [.lit (.bool true)], args := [d] }
  | _ => none }
def fnExactValidWaveRow : OpenClaim := { program := "ytkcododhfliobaa", sum := "53be8e7b1e19cb6a7fde57a56a664338412f59d6869616c55b8b323deb3eaffc", func := "loop.example/g01201/laws.FnExactValidWave", spec := "fnExactValidWave", inPlace := ["math.Float64bits", "math.Float64frombits"], apart := false }
def FnExactValidWaveSaid : Prop := fnExactValidWaveRow.holds Try.pinned (OpenSpec.ofChange fnExactValidWaveSpec)

/-- ITS FALSE NEIGHBOUR: 'it returns false'. Refute it at one input. -/
def fnExactValidWaveWrong : ChangeSpec := { name := "fnExactValidWave", fn := fun _ => fun
  | [d] => { results := [.lit (.bool false)], args := [d] }
  | _ => none }
def FnExactValidWaveWrongFalsely : Prop := fnExactValidWaveRow.holds Try.pinned (OpenSpec.ofChange fnExactValidWaveWrong)

/-- 'laws.FnExactWaveAt': WHATEVER THE INPUT: true; the input reads as it did. -/
def fnExactWaveAtSpec : ChangeSpec := { name := "fnExactWaveAt", fn := fun _ => fun
  | [d1, d2] => { results := [.lit (.bool true)], args := [d1, d2] }
  | _ => none }
def fnExactWaveAtRow : OpenClaim := { program := "ytkcododhfliobaa", sum := "53be8e7b1e19cb6a7fde57a56a664338412f59d6869616c55b8b323deb3eaffc", func := "loop.example/g01201/laws.FnExactWaveAt", spec := "fnExactWaveAt", inPlace := ["math.Float64frombits", "math.Float64bits"], unfollowed := true, recurses := true, apart := false }
def FnExactWaveAtSaid : Prop := fnExactWaveAtRow.holds Try.pinned (OpenSpec.ofChange fnExactWaveAtSpec)

/-- ITS FALSE NEIGHBOUR: 'it returns false'. Refute it at one input. -/
def fnExactWaveAtWrong : ChangeSpec := { name := "fnExactWaveAt", fn := fun _ => fun
  | [d1, d2] => { results := [.lit (.bool false)], args := [d1, d2] }
  | _ => none }
def FnExactWaveAtWrongFalsely : Prop := fnExactWaveAtRow.holds Try.pinned (OpenSpec.ofChange fnExactWaveAtWrong)

/-- 'laws.FnExactWaveList': WHATEVER THE INPUT: true; the input reads as it did. -/
def fnExactWaveListSpec : ChangeSpec := { name := "fnExactWaveList", fn := fun _ => fun
  | [d1, d2, d3] => { results := [.lit (.bool true)], args := [d1, d2, d3] }
  | _ => none }
def fnExactWaveListRow : OpenClaim := { program := "ytkcododhfliobaa", sum := "53be8e7b1e19cb6a7fde57a56a664338412f59d6869616c55b8b323deb3eaffc", func := "loop.example/g01201/laws.FnExactWaveList", spec := "fnExactWaveList", inPlace := ["math.Float64frombits", "math.Float64bits"], unfollowed := true, recurses := true, apart := false }
def FnExactWaveListSaid : Prop := fnExactWaveListRow.holds Try.pinned (OpenSpec.ofChange fnExactWaveListSpec)

/-- ITS FALSE NEIGHBOUR: 'it returns false'. Refute it at one input. -/
def fnExactWaveListWrong : ChangeSpec := { name := "fnExactWaveList", fn := fun _ => fun
  | [d1, d2, d3] => { results := [.lit (.bool false)], args := [d1, d2, d3] }
  | _ => none }
def FnExactWaveListWrongFalsely : Prop := fnExactWaveListRow.holds Try.pinned (OpenSpec.ofChange fnExactWaveListWrong)

/-- 'laws.FnExactLaterWave': WHATEVER THE INPUT: true; the input reads as it did. -/
def fnExactLaterWaveSpec : ChangeSpec := { name := "fnExactLaterWave", fn := fun _ => fun
  | [d1, d2] => { results := [.lit (.bool true)], args := [d1, d2] }
  | _ => none }
def fnExactLaterWaveRow : OpenClaim := { program := "ytkcododhfliobaa", sum := "53be8e7b1e19cb6a7fde57a56a664338412f59d6869616c55b8b323deb3eaffc", func := "loop.example/g01201/laws.FnExactLaterWave", spec := "fnExactLaterWave", inPlace := ["math.Float64bits", "math.Float64frombits"], apart := false }
def FnExactLaterWaveSaid : Prop := fnExactLaterWaveRow.holds Try.pinned (OpenSpec.ofChange fnExactLaterWaveSpec)

/-- ITS FALSE NEIGHBOUR: 'it returns false'. Refute it at one input. -/
def fnExactLaterWaveWrong : ChangeSpec := { name := "fnExactLaterWave", fn := fun _ => fun
  | [d1, d2] => { results := [.lit (.bool false)], args := [d1, d2] }
  | _ => none }
def FnExactLaterWaveWrongFalsely : Prop := fnExactLaterWaveRow.holds Try.pinned (OpenSpec.ofChange fnExactLaterWaveWrong)

/-- 'laws.FnExactNextSeed': WHATEVER THE INPUT: true; the input reads as it did. -/
def fnExactNextSeedSpec : ChangeSpec := { name := "fnExactNextSeed", fn := fun _ => fun
  | [d] => { results := [.lit (.bool true)], args := [d] }
  | _ => none }
def fnExactNextSeedRow : OpenClaim := { program := "ytkcododhfliobaa", sum := "53be8e7b1e19cb6a7fde57a56a664338412f59d6869616c55b8b323deb3eaffc", func := "loop.example/g01201/laws.FnExactNextSeed", spec := "fnExactNextSeed", apart := false }
def FnExactNextSeedSaid : Prop := fnExactNextSeedRow.holds Try.pinned (OpenSpec.ofChange fnExactNextSeedSpec)

/-- ITS FALSE NEIGHBOUR: 'it returns false'. Refute it at one input. -/
def fnExactNextSeedWrong : ChangeSpec := { name := "fnExactNextSeed", fn := fun _ => fun
  | [d] => { results := [.lit (.bool false)], args := [d] }
  | _ => none }
def FnExactNextSeedWrongFalsely : Prop := fnExactNextSeedRow.holds Try.pinned (OpenSpec.ofChange fnExactNextSeedWrong)

/-- 'laws.FnExactAreSources': WHATEVER THE INPUT: true; the input reads as it did. -/
def fnExactAreSourcesSpec : ChangeSpec := { name := "fnExactAreSources", fn := fun _ => fun
  | [d1, d2] => { results := [.lit (.bool true)], args := [d1, d2] }
  | _ => none }
def fnExactAreSourcesRow : OpenClaim := { program := "ytkcododhfliobaa", sum := "53be8e7b1e19cb6a7fde57a56a664338412f59d6869616c55b8b323deb3eaffc", func := "loop.example/g01201/laws.FnExactAreSources", spec := "fnExactAreSources", inPlace := ["math.Float64bits", "math.Float64frombits"], unfollowed := true, recurses := true, apart := false }
def FnExactAreSourcesSaid : Prop := fnExactAreSourcesRow.holds Try.pinned (OpenSpec.ofChange fnExactAreSourcesSpec)

/-- ITS FALSE NEIGHBOUR: 'it returns false'. Refute it at one input. -/
def fnExactAreSourcesWrong : ChangeSpec := { name := "fnExactAreSources", fn := fun _ => fun
  | [d1, d2] => { results := [.lit (.bool false)], args := [d1, d2] }
  | _ => none }
def FnExactAreSourcesWrongFalsely : Prop := fnExactAreSourcesRow.holds Try.pinned (OpenSpec.ofChange fnExactAreSourcesWrong)

/-- 'laws.FnExactAreProbes': WHATEVER THE INPUT: true; the input reads as it did. -/
def fnExactAreProbesSpec : ChangeSpec := { name := "fnExactAreProbes", fn := fun _ => fun
  | [d1, d2] => { results := [.lit (.bool true)], args := [d1, d2] }
  | _ => none }
def fnExactAreProbesRow : OpenClaim := { program := "ytkcododhfliobaa", sum := "53be8e7b1e19cb6a7fde57a56a664338412f59d6869616c55b8b323deb3eaffc", func := "loop.example/g01201/laws.FnExactAreProbes", spec := "fnExactAreProbes", unfollowed := true, recurses := true, apart := false }
def FnExactAreProbesSaid : Prop := fnExactAreProbesRow.holds Try.pinned (OpenSpec.ofChange fnExactAreProbesSpec)

/-- ITS FALSE NEIGHBOUR: 'it returns false'. Refute it at one input. -/
def fnExactAreProbesWrong : ChangeSpec := { name := "fnExactAreProbes", fn := fun _ => fun
  | [d1, d2] => { results := [.lit (.bool false)], args := [d1, d2] }
  | _ => none }
def FnExactAreProbesWrongFalsely : Prop := fnExactAreProbesRow.holds Try.pinned (OpenSpec.ofChange fnExactAreProbesWrong)

/-- 'laws.FnExactReadProbes': WHATEVER THE INPUT: true; the input reads as it did. -/
def fnExactReadProbesSpec : ChangeSpec := { name := "fnExactReadProbes", fn := fun _ => fun
  | [d1, d2, d3] => { results := [.lit (.bool true)], args := [d1, d2, d3] }
  | _ => none }
def fnExactReadProbesRow : OpenClaim := { program := "ytkcododhfliobaa", sum := "53be8e7b1e19cb6a7fde57a56a664338412f59d6869616c55b8b323deb3eaffc", func := "loop.example/g01201/laws.FnExactReadProbes", spec := "fnExactReadProbes", unfollowed := true, recurses := true, apart := false }
def FnExactReadProbesSaid : Prop := fnExactReadProbesRow.holds Try.pinned (OpenSpec.ofChange fnExactReadProbesSpec)

/-- ITS FALSE NEIGHBOUR: 'it returns false'. Refute it at one input. -/
def fnExactReadProbesWrong : ChangeSpec := { name := "fnExactReadProbes", fn := fun _ => fun
  | [d1, d2, d3] => { results := [.lit (.bool false)], args := [d1, d2, d3] }
  | _ => none }
def FnExactReadProbesWrongFalsely : Prop := fnExactReadProbesRow.holds Try.pinned (OpenSpec.ofChange fnExactReadProbesWrong)

/-- 'laws.FnExactRingAround': WHATEVER THE INPUT: true; the input reads as it did. -/
def fnExactRingAroundSpec : ChangeSpec := { name := "fnExactRingAround", fn := fun _ => fun
  | [d1, d2, d3, d4] => { results := [.lit (.bool true)], args := [d1, d2, d3, d4] }
  | _ => none }
def fnExactRingAroundRow : OpenClaim := { program := "ytkcododhfliobaa", sum := "53be8e7b1e19cb6a7fde57a56a664338412f59d6869616c55b8b323deb3eaffc", func := "loop.example/g01201/laws.FnExactRingAround", spec := "fnExactRingAround", unfollowed := true, recurses := true, apart := false }
def FnExactRingAroundSaid : Prop := fnExactRingAroundRow.holds Try.pinned (OpenSpec.ofChange fnExactRingAroundSpec)

/-- ITS FALSE NEIGHBOUR: 'it returns false'. Refute it at one input. -/
def fnExactRingAroundWrong : ChangeSpec := { name := "fnExactRingAround", fn := fun _ => fun
  | [d1, d2, d3, d4] => { results := [.lit (.bool false)], args := [d1, d2, d3, d4] }
  | _ => none }
def FnExactRingAroundWrongFalsely : Prop := fnExactRingAroundRow.holds Try.pinned (OpenSpec.ofChange fnExactRingAroundWrong)

/-- 'laws.FnExactArrivalOf': WHATEVER THE INPUT: true; the input reads as it did. -/
def fnExactArrivalOfSpec : ChangeSpec := { name := "fnExactArrivalOf", fn := fun _ => fun
  | [d1, d2] => { results := [.lit (.bool true)], args := [d1, d2] }
  | _ => none }
def fnExactArrivalOfRow : OpenClaim := { program := "ytkcododhfliobaa", sum := "53be8e7b1e19cb6a7fde57a56a664338412f59d6869616c55b8b323deb3eaffc", func := "loop.example/g01201/laws.FnExactArrivalOf", spec := "fnExactArrivalOf", inPlace := ["math.Float64bits", "math.Float64frombits"], apart := false }
def FnExactArrivalOfSaid : Prop := fnExactArrivalOfRow.holds Try.pinned (OpenSpec.ofChange fnExactArrivalOfSpec)

/-- ITS FALSE NEIGHBOUR: 'it returns false'. Refute it at one input. -/
def fnExactArrivalOfWrong : ChangeSpec := { name := "fnExactArrivalOf", fn := fun _ => fun
  | [d1, d2] => { results := [.lit (.bool false)], args := [d1, d2] }
  | _ => none }
def FnExactArrivalOfWrongFalsely : Prop := fnExactArrivalOfRow.holds Try.pinned (OpenSpec.ofChange fnExactArrivalOfWrong)

/- THE SECOND FORM. 'bulk': how many values and letters a reading holds, each counted each time it is reached (what is shared counts as often as it is met; a slice's spare places count too). A statement '..UptoSaid' is the law's where the arguments, and the package variables that the reading takes, are together of bulk at most 1048576: NARROWER than '..Said'. Prove '..Said' where nothing that the law and all that it calls make is longer than what came in: it says more and counts as full. Else prove '..UptoSaid'. A law counts once. -/
mutual
def uptoBulk {H : Type} : DataW H → Nat
  | .lit (.string bytes) => bytes.length + 1
  | .lit _ => 1
  | .nil => 1
  | .ptr d => uptoBulk d + 1
  | .slice elems spare => uptoBulkAll elems + uptoBulkAll spare + 1
  | .agg parts => uptoBulkAll parts + 1
  | .iface _ d => uptoBulk d + 1
  | .map entries => uptoBulkEntries entries + 1
  | .held _ => 1
def uptoBulkAll {H : Type} : List (DataW H) → Nat
  | [] => 0
  | d :: r => uptoBulk d + uptoBulkAll r
def uptoBulkEntries {H : Type} : List (Lit × DataW H) → Nat
  | [] => 0
  | x :: r => uptoBulkEntry x + uptoBulkEntries r
def uptoBulkEntry {H : Type} : Lit × DataW H → Nat
  | (.string bytes, d) => bytes.length + uptoBulk d + 1
  | (_, d) => uptoBulk d + 1
 end
def uptoSmall : (H : Type) → List (DataW H) → Bool := fun _ ds => decide (uptoBulkAll ds ≤ 1048576)
def OpenSpec.upto (s : _root_.Go.ChangeSpec) : _root_.Go.OpenSpec := { _root_.Go.OpenSpec.ofChange s with cond := some uptoSmall }

/-- 'laws.FnExactValidWave', WHERE WHAT IT READS IS OF BULK AT MOST 1048576: true; the input reads as it did. -/
def fnExactValidWaveUptoRow : OpenClaim := { program := "ytkcododhfliobaa", sum := "53be8e7b1e19cb6a7fde57a56a664338412f59d6869616c55b8b323deb3eaffc", func := "loop.example/g01201/laws.FnExactValidWave", spec := "fnExactValidWave", inPlace := ["math.Float64bits", "math.Float64frombits"], apart := false, narrowed := true }
def FnExactValidWaveUptoSaid : Prop := fnExactValidWaveUptoRow.holds Try.pinned (OpenSpec.upto fnExactValidWaveSpec)

/-- 'laws.FnExactWaveAt', WHERE WHAT IT READS IS OF BULK AT MOST 1048576: true; the input reads as it did. -/
def fnExactWaveAtUptoRow : OpenClaim := { program := "ytkcododhfliobaa", sum := "53be8e7b1e19cb6a7fde57a56a664338412f59d6869616c55b8b323deb3eaffc", func := "loop.example/g01201/laws.FnExactWaveAt", spec := "fnExactWaveAt", inPlace := ["math.Float64frombits", "math.Float64bits"], unfollowed := true, recurses := true, apart := false, narrowed := true }
def FnExactWaveAtUptoSaid : Prop := fnExactWaveAtUptoRow.holds Try.pinned (OpenSpec.upto fnExactWaveAtSpec)

/-- 'laws.FnExactWaveList', WHERE WHAT IT READS IS OF BULK AT MOST 1048576: true; the input reads as it did. -/
def fnExactWaveListUptoRow : OpenClaim := { program := "ytkcododhfliobaa", sum := "53be8e7b1e19cb6a7fde57a56a664338412f59d6869616c55b8b323deb3eaffc", func := "loop.example/g01201/laws.FnExactWaveList", spec := "fnExactWaveList", inPlace := ["math.Float64frombits", "math.Float64bits"], unfollowed := true, recurses := true, apart := false, narrowed := true }
def FnExactWaveListUptoSaid : Prop := fnExactWaveListUptoRow.holds Try.pinned (OpenSpec.upto fnExactWaveListSpec)

/-- 'laws.FnExactLaterWave', WHERE WHAT IT READS IS OF BULK AT MOST 1048576: true; the input reads as it did. -/
def fnExactLaterWaveUptoRow : OpenClaim := { program := "ytkcododhfliobaa", sum := "53be8e7b1e19cb6a7fde57a56a664338412f59d6869616c55b8b323deb3eaffc", func := "loop.example/g01201/laws.FnExactLaterWave", spec := "fnExactLaterWave", inPlace := ["math.Float64bits", "math.Float64frombits"], apart := false, narrowed := true }
def FnExactLaterWaveUptoSaid : Prop := fnExactLaterWaveUptoRow.holds Try.pinned (OpenSpec.upto fnExactLaterWaveSpec)

/-- 'laws.FnExactNextSeed', WHERE WHAT IT READS IS OF BULK AT MOST 1048576: true; the input reads as it did. -/
def fnExactNextSeedUptoRow : OpenClaim := { program := "ytkcododhfliobaa", sum := "53be8e7b1e19cb6a7fde57a56a664338412f59d6869616c55b8b323deb3eaffc", func := "loop.example/g01201/laws.FnExactNextSeed", spec := "fnExactNextSeed", apart := false, narrowed := true }
def FnExactNextSeedUptoSaid : Prop := fnExactNextSeedUptoRow.holds Try.pinned (OpenSpec.upto fnExactNextSeedSpec)

/-- 'laws.FnExactAreSources', WHERE WHAT IT READS IS OF BULK AT MOST 1048576: true; the input reads as it did. -/
def fnExactAreSourcesUptoRow : OpenClaim := { program := "ytkcododhfliobaa", sum := "53be8e7b1e19cb6a7fde57a56a664338412f59d6869616c55b8b323deb3eaffc", func := "loop.example/g01201/laws.FnExactAreSources", spec := "fnExactAreSources", inPlace := ["math.Float64bits", "math.Float64frombits"], unfollowed := true, recurses := true, apart := false, narrowed := true }
def FnExactAreSourcesUptoSaid : Prop := fnExactAreSourcesUptoRow.holds Try.pinned (OpenSpec.upto fnExactAreSourcesSpec)

/-- 'laws.FnExactAreProbes', WHERE WHAT IT READS IS OF BULK AT MOST 1048576: true; the input reads as it did. -/
def fnExactAreProbesUptoRow : OpenClaim := { program := "ytkcododhfliobaa", sum := "53be8e7b1e19cb6a7fde57a56a664338412f59d6869616c55b8b323deb3eaffc", func := "loop.example/g01201/laws.FnExactAreProbes", spec := "fnExactAreProbes", unfollowed := true, recurses := true, apart := false, narrowed := true }
def FnExactAreProbesUptoSaid : Prop := fnExactAreProbesUptoRow.holds Try.pinned (OpenSpec.upto fnExactAreProbesSpec)

/-- 'laws.FnExactReadProbes', WHERE WHAT IT READS IS OF BULK AT MOST 1048576: true; the input reads as it did. -/
def fnExactReadProbesUptoRow : OpenClaim := { program := "ytkcododhfliobaa", sum := "53be8e7b1e19cb6a7fde57a56a664338412f59d6869616c55b8b323deb3eaffc", func := "loop.example/g01201/laws.FnExactReadProbes", spec := "fnExactReadProbes", unfollowed := true, recurses := true, apart := false, narrowed := true }
def FnExactReadProbesUptoSaid : Prop := fnExactReadProbesUptoRow.holds Try.pinned (OpenSpec.upto fnExactReadProbesSpec)

/-- 'laws.FnExactRingAround', WHERE WHAT IT READS IS OF BULK AT MOST 1048576: true; the input reads as it did. -/
def fnExactRingAroundUptoRow : OpenClaim := { program := "ytkcododhfliobaa", sum := "53be8e7b1e19cb6a7fde57a56a664338412f59d6869616c55b8b323deb3eaffc", func := "loop.example/g01201/laws.FnExactRingAround", spec := "fnExactRingAround", unfollowed := true, recurses := true, apart := false, narrowed := true }
def FnExactRingAroundUptoSaid : Prop := fnExactRingAroundUptoRow.holds Try.pinned (OpenSpec.upto fnExactRingAroundSpec)

/-- 'laws.FnExactArrivalOf', WHERE WHAT IT READS IS OF BULK AT MOST 1048576: true; the input reads as it did. -/
def fnExactArrivalOfUptoRow : OpenClaim := { program := "ytkcododhfliobaa", sum := "53be8e7b1e19cb6a7fde57a56a664338412f59d6869616c55b8b323deb3eaffc", func := "loop.example/g01201/laws.FnExactArrivalOf", spec := "fnExactArrivalOf", inPlace := ["math.Float64bits", "math.Float64frombits"], apart := false, narrowed := true }
def FnExactArrivalOfUptoSaid : Prop := fnExactArrivalOfUptoRow.holds Try.pinned (OpenSpec.upto fnExactArrivalOfSpec)

end Rows
end Go.Proofs.Ytkcododhfliobaa
