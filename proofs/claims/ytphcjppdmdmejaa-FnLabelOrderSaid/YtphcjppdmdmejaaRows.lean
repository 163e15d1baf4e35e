/-
  No cell of these rows narrows 'for every input' (looked for: loops, veiled, ifaces, maps, wideKeys, modest, calm, conditions, laid).
  DERIVED. THE GIVEN ROWS OF THIS SEAT. 7 by the template 'for every input the law returns true; each argument reads behind the call as it read before'; 0 by the template 'total and deterministic' (their statements: YtphcjppdmdmejaaTotals.lean).
  GIVEN WITH THE SEED: the statements are not yours to turn. If you find one false, say at which input.
  Laid BY PROGRAM, IN A SANDBOX (cutbox-rows.mjs): the forced cells as the released guide's own fill.sh prints them over the translation 638ee4a15b39d82f… (all of the seat's roots in one cut). By AI agents, Wed Nov 11 2026. No macro, syntax, notation, axiom, sorry.
-/
import Derived.Test.YtphcjppdmdmejaaChecked
import GoSem.Claim
import GoSem.ClaimJoined
import GoSem.ClaimMapViews
import Derived.JoinedTies
import Derived.KernelRfl
namespace Go.Proofs.Ytphcjppdmdmejaa
/- THE CELL 'sum', in the pinned program and in every row, IS THE sha256 OF THE DUMP (.gsa) THAT YtphcjppdmdmejaaProg.lean LOADS. Nothing in Lean hashes anything: it is a label: what it is worth is what the hold of that sum in a sandbox is worth. -/
noncomputable def Try.pinned : Pinned := { name := "ytphcjppdmdmejaa", sum := "638ee4a15b39d82f1783355f03e9e7c17dade2e23106ad9a2c0cbd761948750d", checked := Try.checked }
namespace Rows
def none {H : Type} : Left H := { results := [], args := [] }

/-- 'laws.FnLabelOrder': WHATEVER THE INPUT: true; the input reads as it did. -/
def fnLabelOrderSpec : ChangeSpec := { name := "fnLabelOrder", fn := fun _ => fun
  | [d] => { results := [.lit (.bool true)], args := [d] }
  | _ => none }
def fnLabelOrderRow : OpenClaim := { program := "ytphcjppdmdmejaa", sum := "638ee4a15b39d82f1783355f03e9e7c17dade2e23106ad9a2c0cbd761948750d", func := "loop.example/g03014/laws.FnLabelOrder", spec := "fnLabelOrder", apart := false }
def FnLabelOrderSaid : Prop := fnLabelOrderRow.holds Try.pinned (OpenSpec.ofChange fnLabelOrderSpec)

/-- ITS FALSE NEIGHBOUR: 'it returns false'. Refute it at one input. -/
def fnLabelOrderWrong : ChangeSpec := { name := "fnLabelOrder", fn := fun _ => fun
  | [d] => { results := [.lit (.bool false)], args := [d] }
  | _ => none }
def FnLabelOrderWrongFalsely : Prop := fnLabelOrderRow.holds Try.pinned (OpenSpec.ofChange fnLabelOrderWrong)

/-- 'laws.FnExactIsPlace': WHATEVER THE INPUT: true; the input reads as it did. -/
def fnExactIsPlaceSpec : ChangeSpec := { name := "fnExactIsPlace", fn := fun _ => fun
  | [d] => { results := [.lit (.bool true)], args := [d] }
  | _ => none }
def fnExactIsPlaceRow : OpenClaim := { program := "ytphcjppdmdmejaa", sum := "638ee4a15b39d82f1783355f03e9e7c17dade2e23106ad9a2c0cbd761948750d", func := "loop.example/g03014/laws.FnExactIsPlace", spec := "fnExactIsPlace", apart := false }
def FnExactIsPlaceSaid : Prop := fnExactIsPlaceRow.holds Try.pinned (OpenSpec.ofChange fnExactIsPlaceSpec)

/-- ITS FALSE NEIGHBOUR: 'it returns false'. Refute it at one input. -/
def fnExactIsPlaceWrong : ChangeSpec := { name := "fnExactIsPlace", fn := fun _ => fun
  | [d] => { results := [.lit (.bool false)], args := [d] }
  | _ => none }
def FnExactIsPlaceWrongFalsely : Prop := fnExactIsPlaceRow.holds Try.pinned (OpenSpec.ofChange fnExactIsPlaceWrong)

/-- 'laws.FnExactDigits': WHATEVER THE INPUT: true; the input reads as it did. -/
def fnExactDigitsSpec : ChangeSpec := { name := "fnExactDigits", fn := fun _ => fun
  | [d] => { results := [.lit (.bool true)], args := [d] }
  | _ => none }
def fnExactDigitsRow : OpenClaim := { program := "ytphcjppdmdmejaa", sum := "638ee4a15b39d82f1783355f03e9e7c17dade2e23106ad9a2c0cbd761948750d", func := "loop.example/g03014/laws.FnExactDigits", spec := "fnExactDigits", apart := false }
def FnExactDigitsSaid : Prop := fnExactDigitsRow.holds Try.pinned (OpenSpec.ofChange fnExactDigitsSpec)

/-- ITS FALSE NEIGHBOUR: 'it returns false'. Refute it at one input. -/
def fnExactDigitsWrong : ChangeSpec := { name := "fnExactDigits", fn := fun _ => fun
  | [d] => { results := [.lit (.bool false)], args := [d] }
  | _ => none }
def FnExactDigitsWrongFalsely : Prop := fnExactDigitsRow.holds Try.pinned (OpenSpec.ofChange fnExactDigitsWrong)

/-- 'laws.FnExactMod97': WHATEVER THE INPUT: true; the input reads as it did. -/
def fnExactMod97Spec : ChangeSpec := { name := "fnExactMod97", fn := fun _ => fun
  | [d] => { results := [.lit (.bool true)], args := [d] }
  | _ => none }
def fnExactMod97Row : OpenClaim := { program := "ytphcjppdmdmejaa", sum := "638ee4a15b39d82f1783355f03e9e7c17dade2e23106ad9a2c0cbd761948750d", func := "loop.example/g03014/laws.FnExactMod97", spec := "fnExactMod97", apart := false }
def FnExactMod97Said : Prop := fnExactMod97Row.holds Try.pinned (OpenSpec.ofChange fnExactMod97Spec)

/-- ITS FALSE NEIGHBOUR: 'it returns false'. Refute it at one input. -/
def fnExactMod97Wrong : ChangeSpec := { name := "fnExactMod97", fn := fun _ => fun
  | [d] => { results := [.lit (.bool false)], args := [d] }
  | _ => none }
def FnExactMod97WrongFalsely : Prop := fnExactMod97Row.holds Try.pinned (OpenSpec.ofChange fnExactMod97Wrong)

/-- 'laws.FnExactIsLabel': WHATEVER THE INPUT: true; the input reads as it did. -/
def fnExactIsLabelSpec : ChangeSpec := { name := "fnExactIsLabel", fn := fun _ => fun
  | [d] => { results := [.lit (.bool true)], args := [d] }
  | _ => none }
def fnExactIsLabelRow : OpenClaim := { program := "ytphcjppdmdmejaa", sum := "638ee4a15b39d82f1783355f03e9e7c17dade2e23106ad9a2c0cbd761948750d", func := "loop.example/g03014/laws.FnExactIsLabel", spec := "fnExactIsLabel", apart := false }
def FnExactIsLabelSaid : Prop := fnExactIsLabelRow.holds Try.pinned (OpenSpec.ofChange fnExactIsLabelSpec)

/-- ITS FALSE NEIGHBOUR: 'it returns false'. Refute it at one input. -/
def fnExactIsLabelWrong : ChangeSpec := { name := "fnExactIsLabel", fn := fun _ => fun
  | [d] => { results := [.lit (.bool false)], args := [d] }
  | _ => none }
def FnExactIsLabelWrongFalsely : Prop := fnExactIsLabelRow.holds Try.pinned (OpenSpec.ofChange fnExactIsLabelWrong)

/-- 'laws.FnExactSwapAt': WHATEVER THE INPUT: true; the input reads as it did. -/
def fnExactSwapAtSpec : ChangeSpec := { name := "fnExactSwapAt", fn := fun _ => fun
  | [d1, d2] => { results := [.lit (.bool true)], args := [d1, d2] }
  | _ => none }
def fnExactSwapAtRow : OpenClaim := { program := "ytphcjppdmdmejaa", sum := "638ee4a15b39d82f1783355f03e9e7c17dade2e23106ad9a2c0cbd761948750d", func := "loop.example/g03014/laws.FnExactSwapAt", spec := "fnExactSwapAt", apart := false }
def FnExactSwapAtSaid : Prop := fnExactSwapAtRow.holds Try.pinned (OpenSpec.ofChange fnExactSwapAtSpec)

/-- ITS FALSE NEIGHBOUR: 'it returns false'. Refute it at one input. -/
def fnExactSwapAtWrong : ChangeSpec := { name := "fnExactSwapAt", fn := fun _ => fun
  | [d1, d2] => { results := [.lit (.bool false)], args := [d1, d2] }
  | _ => none }
def FnExactSwapAtWrongFalsely : Prop := fnExactSwapAtRow.holds Try.pinned (OpenSpec.ofChange fnExactSwapAtWrong)

/-- 'laws.FnExactCompareLabels': WHATEVER THE INPUT: true; the input reads as it did. -/
def fnExactCompareLabelsSpec : ChangeSpec := { name := "fnExactCompareLabels", fn := fun _ => fun
  | [d1, d2] => { results := [.lit (.bool true)], args := [d1, d2] }
  | _ => none }
def fnExactCompareLabelsRow : OpenClaim := { program := "ytphcjppdmdmejaa", sum := "638ee4a15b39d82f1783355f03e9e7c17dade2e23106ad9a2c0cbd761948750d", func := "loop.example/g03014/laws.FnExactCompareLabels", spec := "fnExactCompareLabels", apart := false }
def FnExactCompareLabelsSaid : Prop := fnExactCompareLabelsRow.holds Try.pinned (OpenSpec.ofChange fnExactCompareLabelsSpec)

/-- ITS FALSE NEIGHBOUR: 'it returns false'. Refute it at one input. -/
def fnExactCompareLabelsWrong : ChangeSpec := { name := "fnExactCompareLabels", fn := fun _ => fun
  | [d1, d2] => { results := [.lit (.bool false)], args := [d1, d2] }
  | _ => none }
def FnExactCompareLabelsWrongFalsely : Prop := fnExactCompareLabelsRow.holds Try.pinned (OpenSpec.ofChange fnExactCompareLabelsWrong)

/- THE SECOND FORM. 'bulk': how many values and letters a reading holds, each counted each time it is reached (what is shared counts as often as it is met; a slice's spare places count too). A statement '..UptoSaid' is the law's where the arguments, and the package variables that the reading takes, are together of bulk at most 1048576: NARROWER than '..Said'. Prove '..Said' where nothing that the law and all that it calls make is longer than what came in: it says more and counts as full. Else prove '..UptoSaid'. A law counts once. -/
mutual
def uptoBulk {H : Type} : DataW H → Nat
  | .lit (.string bytes) => bytes.length + 1
  | .lit _ => 1
  | .nil => 1
  | .ptr d => uptoBulk d + 1
  | .slice elems spare => uptoBulkAll elems + uptoBulkAll spare + 1
  | .agg parts => uptoBulkAll parts + 1
  | .iface _ d => uptoBulk d + 1
  | .map entries => uptoBulkEntries entries + 1
  | .held _ => 1
def uptoBulkAll {H : Type} : List (DataW H) → Nat
  | [] => 0
  | d :: r => uptoBulk d + uptoBulkAll r
def uptoBulkEntries {H : Type} : List (Lit × DataW H) → Nat
  | [] => 0
  | x :: r => uptoBulkEntry x + uptoBulkEntries r
def uptoBulkEntry {H : Type} : Lit × DataW H → Nat
  | (.string bytes, d) => bytes.length + uptoBulk d + 1
  | (_, d) => uptoBulk d + 1
 end
def uptoSmall : (H : Type) → List (DataW H) → Bool := fun _ ds => decide (uptoBulkAll ds ≤ 1048576)
def OpenSpec.upto (s : _root_.Go.ChangeSpec) : _root_.Go.OpenSpec := { _root_.Go.OpenSpec.ofChange s with cond := some uptoSmall }

/-- 'laws.FnLabelOrder', WHERE WHAT IT READS IS OF BULK AT MOST 1048576: true; the input reads as it did. -/
def fnLabelOrderUptoRow : OpenClaim := { program := "ytphcjppdmdmejaa", sum := "638ee4a15b39d82f1783355f03e9e7c17dade2e23106ad9a2c0cbd761948750d", func := "loop.example/g03014/laws.FnLabelOrder", spec := "fnLabelOrder", apart := false, narrowed := true }
def FnLabelOrderUptoSaid : Prop := fnLabelOrderUptoRow.holds Try.pinned (OpenSpec.upto fnLabelOrderSpec)

/-- 'laws.FnExactIsPlace', WHERE WHAT IT READS IS OF BULK AT MOST 1048576: true; the input reads as it did. -/
def fnExactIsPlaceUptoRow : OpenClaim := { program := "ytphcjppdmdmejaa", sum := "638ee4a15b39d82f1783355f03e9e7c17dade2e23106ad9a2c0cbd761948750d", func := "loop.example/g03014/laws.FnExactIsPlace", spec := "fnExactIsPlace", apart := false, narrowed := true }
def FnExactIsPlaceUptoSaid : Prop := fnExactIsPlaceUptoRow.holds Try.pinned (OpenSpec.upto fnExactIsPlaceSpec)

/-- 'laws.FnExactDigits', WHERE WHAT IT READS IS OF BULK AT MOST 1048576: true; the input reads as it did. -/
def fnExactDigitsUptoRow : OpenClaim := { program := "ytphcjppdmdmejaa", sum := "638ee4a15b39d82f1783355f03e9e7c17dade2e23106ad9a2c0cbd761948750d", func := "loop.example/g03014/laws.FnExactDigits", spec := "fnExactDigits", apart := false, narrowed := true }
def FnExactDigitsUptoSaid : Prop := fnExactDigitsUptoRow.holds Try.pinned (OpenSpec.upto fnExactDigitsSpec)

/-- 'laws.FnExactMod97', WHERE WHAT IT READS IS OF BULK AT MOST 1048576: true; the input reads as it did. -/
def fnExactMod97UptoRow : OpenClaim := { program := "ytphcjppdmdmejaa", sum := "638ee4a15b39d82f1783355f03e9e7c17dade2e23106ad9a2c0cbd761948750d", func := "loop.example/g03014/laws.FnExactMod97", spec := "fnExactMod97", apart := false, narrowed := true }
def FnExactMod97UptoSaid : Prop := fnExactMod97UptoRow.holds Try.pinned (OpenSpec.upto fnExactMod97Spec)

/-- 'laws.FnExactIsLabel', WHERE WHAT IT READS IS OF BULK AT MOST 1048576: true; the input reads as it did. -/
def fnExactIsLabelUptoRow : OpenClaim := { program := "ytphcjppdmdmejaa", sum := "638ee4a15b39d82f1783355f03e9e7c17dade2e23106ad9a2c0cbd761948750d", func := "loop.example/g03014/laws.FnExactIsLabel", spec := "fnExactIsLabel", apart := false, narrowed := true }
def FnExactIsLabelUptoSaid : Prop := fnExactIsLabelUptoRow.holds Try.pinned (OpenSpec.upto fnExactIsLabelSpec)

/-- 'laws.FnExactSwapAt', WHERE WHAT IT READS IS OF BULK AT MOST 1048576: true; the input reads as it did. -/
def fnExactSwapAtUptoRow : OpenClaim := { program := "ytphcjppdmdmejaa", sum := "638ee4a15b39d82f1783355f03e9e7c17dade2e23106ad9a2c0cbd761948750d", func := "loop.example/g03014/laws.FnExactSwapAt", spec := "fnExactSwapAt", apart := false, narrowed := true }
def FnExactSwapAtUptoSaid : Prop := fnExactSwapAtUptoRow.holds Try.pinned (OpenSpec.upto fnExactSwapAtSpec)

/-- 'laws.FnExactCompareLabels', WHERE WHAT IT READS IS OF BULK AT MOST 1048576: true; the input reads as it did. -/
def fnExactCompareLabelsUptoRow : OpenClaim := { program := "ytphcjppdmdmejaa", sum := "638ee4a15b39d82f1783355f03e9e7c17dade2e23106ad9a2c0cbd761948750d", func := "loop.example/g03014/laws.FnExactCompareLabels", spec := "fnExactCompareLabels", apart := false, narrowed := true }
def FnExactCompareLabelsUptoSaid : Prop := fnExactCompareLabelsUptoRow.holds Try.pinned (OpenSpec.upto fnExactCompareLabelsSpec)

end Rows
end Go.Proofs.Ytphcjppdmdmejaa
