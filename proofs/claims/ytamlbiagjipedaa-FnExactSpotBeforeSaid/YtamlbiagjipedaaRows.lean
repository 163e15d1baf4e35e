/-
  No cell of these rows narrows 'for every input' (looked for: loops, veiled, ifaces, maps, wideKeys, modest, calm, conditions, laid).
  DERIVED. THE GIVEN ROWS OF THIS SEAT. 6 by the template 'for every input the law returns true; each argument reads behind the call as it read before'; 0 by the template 'total and deterministic' (their statements: YtamlbiagjipedaaTotals.lean).
  GIVEN WITH THE SEED: the statements are not yours to turn. If you find one false, say at which input.
  Laid BY PROGRAM, IN A SANDBOX (cutbox-rows.mjs): the forced cells as the released guide's own fill.sh prints them over the translation 70c52c1264c4cf57… (all of the seat's roots in one cut). By AI agents, Wed Nov 11 2026. No macro, syntax, notation, axiom, sorry.
-/
import Derived.Test.YtamlbiagjipedaaChecked
import GoSem.Claim
import GoSem.ClaimJoined
import GoSem.ClaimMapViews
import Derived.JoinedTies
import Derived.KernelRfl
namespace Go.Proofs.Ytamlbiagjipedaa
/- THE CELL 'sum', in the pinned program and in every row, IS THE sha256 OF THE DUMP (.gsa) THAT YtamlbiagjipedaaProg.lean LOADS. Nothing in Lean hashes anything: it is a label: what it is worth is what the hold of that sum in a sandbox is worth. -/
noncomputable def Try.pinned : Pinned := { name := "ytamlbiagjipedaa", sum := "70c52c1264c4cf57d9d29d8c2db5a70ccc4064342e49db2b992a403d2d523bb9", checked := Try.checked }
namespace Rows
def none {H : Type} : Left H := { results := [], args := [] }

/-- 'laws.FnExactFindWay': WHATEVER THE INPUT: true; the input reads as it did. -/
def fnExactFindWaySpec : ChangeSpec := { name := "fnExactFindWay", fn := fun _ => fun
  | [d1, d2, d3, d4] => { results := [.lit (.bool true)], args := [d1, d2, d3, d4] }
  | _ => none }
def fnExactFindWayRow : OpenClaim := { program := "ytamlbiagjipedaa", sum := "70c52c1264c4cf57d9d29d8c2db5a70ccc4064342e49db2b992a403d2d523bb9", func := "loop.example/g03014/laws.FnExactFindWay", spec := "fnExactFindWay", inPlace := ["maps.clone"], recurses := true, apart := false }
def FnExactFindWaySaid : Prop := fnExactFindWayRow.holds Try.pinned (OpenSpec.ofChange fnExactFindWaySpec)

/-- ITS FALSE NEIGHBOUR: 'it returns false'. Refute it at one input. -/
def fnExactFindWayWrong : ChangeSpec := { name := "fnExactFindWay", fn := fun _ => fun
  | [d1, d2, d3, d4] => { results := [.lit (.bool false)], args := [d1, d2, d3, d4] }
  | _ => none }
def FnExactFindWayWrongFalsely : Prop := fnExactFindWayRow.holds Try.pinned (OpenSpec.ofChange fnExactFindWayWrong)

/-- 'laws.FnExactIsScan': WHATEVER THE INPUT: true; the input reads as it did. -/
def fnExactIsScanSpec : ChangeSpec := { name := "fnExactIsScan", fn := fun _ => fun
  | [d1, d2] => { results := [.lit (.bool true)], args := [d1, d2] }
  | _ => none }
def fnExactIsScanRow : OpenClaim := { program := "ytamlbiagjipedaa", sum := "70c52c1264c4cf57d9d29d8c2db5a70ccc4064342e49db2b992a403d2d523bb9", func := "loop.example/g03014/laws.FnExactIsScan", spec := "fnExactIsScan", recurses := true, apart := false }
def FnExactIsScanSaid : Prop := fnExactIsScanRow.holds Try.pinned (OpenSpec.ofChange fnExactIsScanSpec)

/-- ITS FALSE NEIGHBOUR: 'it returns false'. Refute it at one input. -/
def fnExactIsScanWrong : ChangeSpec := { name := "fnExactIsScan", fn := fun _ => fun
  | [d1, d2] => { results := [.lit (.bool false)], args := [d1, d2] }
  | _ => none }
def FnExactIsScanWrongFalsely : Prop := fnExactIsScanRow.holds Try.pinned (OpenSpec.ofChange fnExactIsScanWrong)

/-- 'laws.FnExactPlaceOf': WHATEVER THE INPUT: true; the input reads as it did. -/
def fnExactPlaceOfSpec : ChangeSpec := { name := "fnExactPlaceOf", fn := fun _ => fun
  | [d1, d2] => { results := [.lit (.bool true)], args := [d1, d2] }
  | _ => none }
def fnExactPlaceOfRow : OpenClaim := { program := "ytamlbiagjipedaa", sum := "70c52c1264c4cf57d9d29d8c2db5a70ccc4064342e49db2b992a403d2d523bb9", func := "loop.example/g03014/laws.FnExactPlaceOf", spec := "fnExactPlaceOf", recurses := true, apart := false }
def FnExactPlaceOfSaid : Prop := fnExactPlaceOfRow.holds Try.pinned (OpenSpec.ofChange fnExactPlaceOfSpec)

/-- ITS FALSE NEIGHBOUR: 'it returns false'. Refute it at one input. -/
def fnExactPlaceOfWrong : ChangeSpec := { name := "fnExactPlaceOf", fn := fun _ => fun
  | [d1, d2] => { results := [.lit (.bool false)], args := [d1, d2] }
  | _ => none }
def FnExactPlaceOfWrongFalsely : Prop := fnExactPlaceOfRow.holds Try.pinned (OpenSpec.ofChange fnExactPlaceOfWrong)

/-- 'laws.FnExactCompareScans': WHATEVER THE INPUT: true; the input reads as it did. -/
def fnExactCompareScansSpec : ChangeSpec := { name := "fnExactCompareScans", fn := fun _ => fun
  | [d1, d2] => { results := [.lit (.bool true)], args := [d1, d2] }
  | _ => none }
def fnExactCompareScansRow : OpenClaim := { program := "ytamlbiagjipedaa", sum := "70c52c1264c4cf57d9d29d8c2db5a70ccc4064342e49db2b992a403d2d523bb9", func := "loop.example/g03014/laws.FnExactCompareScans", spec := "fnExactCompareScans", apart := false }
def FnExactCompareScansSaid : Prop := fnExactCompareScansRow.holds Try.pinned (OpenSpec.ofChange fnExactCompareScansSpec)

/-- ITS FALSE NEIGHBOUR: 'it returns false'. Refute it at one input. -/
def fnExactCompareScansWrong : ChangeSpec := { name := "fnExactCompareScans", fn := fun _ => fun
  | [d1, d2] => { results := [.lit (.bool false)], args := [d1, d2] }
  | _ => none }
def FnExactCompareScansWrongFalsely : Prop := fnExactCompareScansRow.holds Try.pinned (OpenSpec.ofChange fnExactCompareScansWrong)

/-- 'laws.FnExactSpotBehind': WHATEVER THE INPUT: true; the input reads as it did. -/
def fnExactSpotBehindSpec : ChangeSpec := { name := "fnExactSpotBehind", fn := fun _ => fun
  | [d1, d2] => { results := [.lit (.bool true)], args := [d1, d2] }
  | _ => none }
def fnExactSpotBehindRow : OpenClaim := { program := "ytamlbiagjipedaa", sum := "70c52c1264c4cf57d9d29d8c2db5a70ccc4064342e49db2b992a403d2d523bb9", func := "loop.example/g03014/laws.FnExactSpotBehind", spec := "fnExactSpotBehind", recurses := true, apart := false }
def FnExactSpotBehindSaid : Prop := fnExactSpotBehindRow.holds Try.pinned (OpenSpec.ofChange fnExactSpotBehindSpec)

/-- ITS FALSE NEIGHBOUR: 'it returns false'. Refute it at one input. -/
def fnExactSpotBehindWrong : ChangeSpec := { name := "fnExactSpotBehind", fn := fun _ => fun
  | [d1, d2] => { results := [.lit (.bool false)], args := [d1, d2] }
  | _ => none }
def FnExactSpotBehindWrongFalsely : Prop := fnExactSpotBehindRow.holds Try.pinned (OpenSpec.ofChange fnExactSpotBehindWrong)

/-- 'laws.FnExactSpotBefore': WHATEVER THE INPUT: true; the input reads as it did. -/
def fnExactSpotBeforeSpec : ChangeSpec := { name := "fnExactSpotBefore", fn := fun _ => fun
  | [d1, d2] => { results := [.lit (.bool true)], args := [d1, d2] }
  | _ => none }
def fnExactSpotBeforeRow : OpenClaim := { program := "ytamlbiagjipedaa", sum := "70c52c1264c4cf57d9d29d8c2db5a70ccc4064342e49db2b992a403d2d523bb9", func := "loop.example/g03014/laws.FnExactSpotBefore", spec := "fnExactSpotBefore", recurses := true, apart := false }
def FnExactSpotBeforeSaid : Prop := fnExactSpotBeforeRow.holds Try.pinned (OpenSpec.ofChange fnExactSpotBeforeSpec)

/-- ITS FALSE NEIGHBOUR: 'it returns false'. Refute it at one input. -/
def fnExactSpotBeforeWrong : ChangeSpec := { name := "fnExactSpotBefore", fn := fun _ => fun
  | [d1, d2] => { results := [.lit (.bool false)], args := [d1, d2] }
  | _ => none }
def FnExactSpotBeforeWrongFalsely : Prop := fnExactSpotBeforeRow.holds Try.pinned (OpenSpec.ofChange fnExactSpotBeforeWrong)

/- THE SECOND FORM. 'bulk': how many values and letters a reading holds, each counted each time it is reached (what is shared counts as often as it is met; a slice's spare places count too). A statement '..UptoSaid' is the law's where the arguments, and the package variables that the reading takes, are together of bulk at most 1048576: NARROWER than '..Said'. Prove '..Said' where nothing that the law and all that it calls make is longer than what came in: it says more and counts as full. Else prove '..UptoSaid'. A law counts once. -/
mutual
def uptoBulk {H : Type} : DataW H → Nat
  | .lit (.string bytes) => bytes.length + 1
  | .lit _ => 1
  | .nil => 1
  | .ptr d => uptoBulk d + 1
  | .slice elems spare => uptoBulkAll elems + uptoBulkAll spare + 1
  | .agg parts => uptoBulkAll parts + 1
  | .iface _ d => uptoBulk d + 1
  | .map entries => uptoBulkEntries entries + 1
  | .held _ => 1
def uptoBulkAll {H : Type} : List (DataW H) → Nat
  | [] => 0
  | d :: r => uptoBulk d + uptoBulkAll r
def uptoBulkEntries {H : Type} : List (Lit × DataW H) → Nat
  | [] => 0
  | x :: r => uptoBulkEntry x + uptoBulkEntries r
def uptoBulkEntry {H : Type} : Lit × DataW H → Nat
  | (.string bytes, d) => bytes.length + uptoBulk d + 1
  | (_, d) => uptoBulk d + 1
 end
def uptoSmall : (H : Type) → List (DataW H) → Bool := fun _ ds => decide (uptoBulkAll ds ≤ 1048576)
def OpenSpec.upto (s : _root_.Go.ChangeSpec) : _root_.Go.OpenSpec := { _root_.Go.OpenSpec.ofChange s with cond := some uptoSmall }

/-- 'laws.FnExactFindWay', WHERE WHAT IT READS IS OF BULK AT MOST 1048576: true; the input reads as it did. -/
def fnExactFindWayUptoRow : OpenClaim := { program := "ytamlbiagjipedaa", sum := "70c52c1264c4cf57d9d29d8c2db5a70ccc4064342e49db2b992a403d2d523bb9", func := "loop.example/g03014/laws.FnExactFindWay", spec := "fnExactFindWay", inPlace := ["maps.clone"], recurses := true, apart := false, narrowed := true }
def FnExactFindWayUptoSaid : Prop := fnExactFindWayUptoRow.holds Try.pinned (OpenSpec.upto fnExactFindWaySpec)

/-- 'laws.FnExactIsScan', WHERE WHAT IT READS IS OF BULK AT MOST 1048576: true; the input reads as it did. -/
def fnExactIsScanUptoRow : OpenClaim := { program := "ytamlbiagjipedaa", sum := "70c52c1264c4cf57d9d29d8c2db5a70ccc4064342e49db2b992a403d2d523bb9", func := "loop.example/g03014/laws.FnExactIsScan", spec := "fnExactIsScan", recurses := true, apart := false, narrowed := true }
def FnExactIsScanUptoSaid : Prop := fnExactIsScanUptoRow.holds Try.pinned (OpenSpec.upto fnExactIsScanSpec)

/-- 'laws.FnExactPlaceOf', WHERE WHAT IT READS IS OF BULK AT MOST 1048576: true; the input reads as it did. -/
def fnExactPlaceOfUptoRow : OpenClaim := { program := "ytamlbiagjipedaa", sum := "70c52c1264c4cf57d9d29d8c2db5a70ccc4064342e49db2b992a403d2d523bb9", func := "loop.example/g03014/laws.FnExactPlaceOf", spec := "fnExactPlaceOf", recurses := true, apart := false, narrowed := true }
def FnExactPlaceOfUptoSaid : Prop := fnExactPlaceOfUptoRow.holds Try.pinned (OpenSpec.upto fnExactPlaceOfSpec)

/-- 'laws.FnExactCompareScans', WHERE WHAT IT READS IS OF BULK AT MOST 1048576: true; the input reads as it did. -/
def fnExactCompareScansUptoRow : OpenClaim := { program := "ytamlbiagjipedaa", sum := "70c52c1264c4cf57d9d29d8c2db5a70ccc4064342e49db2b992a403d2d523bb9", func := "loop.example/g03014/laws.FnExactCompareScans", spec := "fnExactCompareScans", apart := false, narrowed := true }
def FnExactCompareScansUptoSaid : Prop := fnExactCompareScansUptoRow.holds Try.pinned (OpenSpec.upto fnExactCompareScansSpec)

/-- 'laws.FnExactSpotBehind', WHERE WHAT IT READS IS OF BULK AT MOST 1048576: true; the input reads as it did. -/
def fnExactSpotBehindUptoRow : OpenClaim := { program := "ytamlbiagjipedaa", sum := "70c52c1264c4cf57d9d29d8c2db5a70ccc4064342e49db2b992a403d2d523bb9", func := "loop.example/g03014/laws.FnExactSpotBehind", spec := "fnExactSpotBehind", recurses := true, apart := false, narrowed := true }
def FnExactSpotBehindUptoSaid : Prop := fnExactSpotBehindUptoRow.holds Try.pinned (OpenSpec.upto fnExactSpotBehindSpec)

/-- 'laws.FnExactSpotBefore', WHERE WHAT IT READS IS OF BULK AT MOST 1048576: true; the input reads as it did. -/
def fnExactSpotBeforeUptoRow : OpenClaim := { program := "ytamlbiagjipedaa", sum := "70c52c1264c4cf57d9d29d8c2db5a70ccc4064342e49db2b992a403d2d523bb9", func := "loop.example/g03014/laws.FnExactSpotBefore", spec := "fnExactSpotBefore", recurses := true, apart := false, narrowed := true }
def FnExactSpotBeforeUptoSaid : Prop := fnExactSpotBeforeUptoRow.holds Try.pinned (OpenSpec.upto fnExactSpotBeforeSpec)

end Rows
end Go.Proofs.Ytamlbiagjipedaa
