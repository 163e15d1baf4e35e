/-
  No cell of these rows narrows 'for every input' (looked for: loops, veiled, ifaces, maps, wideKeys, modest, calm, conditions, laid).
  DERIVED. THE GIVEN ROWS OF THIS SEAT. 11 by the template 'for every input the law returns true; each argument reads behind the call as it read before'; 0 by the template 'total and deterministic' (their statements: YtamlbiagjipedaaGreatTotals.lean).
  GIVEN WITH THE SEED: the statements are not yours to turn. If you find one false, say at which input.
  Laid BY PROGRAM, IN A SANDBOX (cutbox-rows.mjs): the forced cells as the released guide's own fill.sh prints them over the translation 6a5e80f75356321e… (all of the seat's roots in one cut). By AI agents, Wed Nov 11 2026. No macro, syntax, notation, axiom, sorry.
-/
import Derived.Test.YtamlbiagjipedaaGreatChecked
import GoSem.Claim
import GoSem.ClaimJoined
import GoSem.ClaimMapViews
import Derived.JoinedTies
import Derived.KernelRfl
namespace Go.Proofs.YtamlbiagjipedaaGreat
/- THE CELL 'sum', in the pinned program and in every row, IS THE sha256 OF THE DUMP (.gsa) THAT YtamlbiagjipedaaGreatProg.lean LOADS. Nothing in Lean hashes anything: it is a label: what it is worth is what the hold of that sum in a sandbox is worth. -/
noncomputable def Tryz.pinned : Pinned := { name := "ytamlbiagjipedaagreat", sum := "6a5e80f75356321e5f72abd566400159d7976d2a12df0b4fdb0a4c823c7fed62", checked := Tryz.checked }
namespace Rows
def none {H : Type} : Left H := { results := [], args := [] }

/-- 'laws.FnScanOrder': WHATEVER THE INPUT: true; the input reads as it did. -/
def fnScanOrderSpec : ChangeSpec := { name := "fnScanOrder", fn := fun _ => fun
  | [d] => { results := [.lit (.bool true)], args := [d] }
  | _ => none }
def fnScanOrderRow : OpenClaim := { program := "ytamlbiagjipedaagreat", sum := "6a5e80f75356321e5f72abd566400159d7976d2a12df0b4fdb0a4c823c7fed62", func := "loop.example/g03014/laws.FnScanOrder", spec := "fnScanOrder", inPlace := ["maps.clone"], unfollowed := true, recurses := true, apart := false }
def FnScanOrderSaid : Prop := fnScanOrderRow.holds Tryz.pinned (OpenSpec.ofChange fnScanOrderSpec)

/-- ITS FALSE NEIGHBOUR: 'it returns false'. Refute it at one input. -/
def fnScanOrderWrong : ChangeSpec := { name := "fnScanOrder", fn := fun _ => fun
  | [d] => { results := [.lit (.bool false)], args := [d] }
  | _ => none }
def FnScanOrderWrongFalsely : Prop := fnScanOrderRow.holds Tryz.pinned (OpenSpec.ofChange fnScanOrderWrong)

/-- 'laws.FnStory': WHATEVER THE INPUT: true; the input reads as it did. -/
def fnStorySpec : ChangeSpec := { name := "fnStory", fn := fun _ => fun
  | [d] => { results := [.lit (.bool true)], args := [d] }
  | _ => none }
def fnStoryRow : OpenClaim := { program := "ytamlbiagjipedaagreat", sum := "6a5e80f75356321e5f72abd566400159d7976d2a12df0b4fdb0a4c823c7fed62", func := "loop.example/g03014/laws.FnStory", spec := "fnStory", inPlace := ["maps.clone"], unfollowed := true, recurses := true, apart := false }
def FnStorySaid : Prop := fnStoryRow.holds Tryz.pinned (OpenSpec.ofChange fnStorySpec)

/-- ITS FALSE NEIGHBOUR: 'it returns false'. Refute it at one input. -/
def fnStoryWrong : ChangeSpec := { name := "fnStory", fn := fun _ => fun
  | [d] => { results := [.lit (.bool false)], args := [d] }
  | _ => none }
def FnStoryWrongFalsely : Prop := fnStoryRow.holds Tryz.pinned (OpenSpec.ofChange fnStoryWrong)

/-- 'laws.FnCleaned': WHATEVER THE INPUT: true; the input reads as it did. -/
def fnCleanedSpec : ChangeSpec := { name := "fnCleaned", fn := fun _ => fun
  | [d] => { results := [.lit (.bool true)], args := [d] }
  | _ => none }
def fnCleanedRow : OpenClaim := { program := "ytamlbiagjipedaagreat", sum := "6a5e80f75356321e5f72abd566400159d7976d2a12df0b4fdb0a4c823c7fed62", func := "loop.example/g03014/laws.FnCleaned", spec := "fnCleaned", inPlace := ["maps.clone"], unfollowed := true, recurses := true, apart := false }
def FnCleanedSaid : Prop := fnCleanedRow.holds Tryz.pinned (OpenSpec.ofChange fnCleanedSpec)

/-- ITS FALSE NEIGHBOUR: 'it returns false'. Refute it at one input. -/
def fnCleanedWrong : ChangeSpec := { name := "fnCleaned", fn := fun _ => fun
  | [d] => { results := [.lit (.bool false)], args := [d] }
  | _ => none }
def FnCleanedWrongFalsely : Prop := fnCleanedRow.holds Tryz.pinned (OpenSpec.ofChange fnCleanedWrong)

/-- 'laws.FnBetween': WHATEVER THE INPUT: true; the input reads as it did. -/
def fnBetweenSpec : ChangeSpec := { name := "fnBetween", fn := fun _ => fun
  | [d] => { results := [.lit (.bool true)], args := [d] }
  | _ => none }
def fnBetweenRow : OpenClaim := { program := "ytamlbiagjipedaagreat", sum := "6a5e80f75356321e5f72abd566400159d7976d2a12df0b4fdb0a4c823c7fed62", func := "loop.example/g03014/laws.FnBetween", spec := "fnBetween", inPlace := ["maps.clone"], unfollowed := true, recurses := true, apart := false }
def FnBetweenSaid : Prop := fnBetweenRow.holds Tryz.pinned (OpenSpec.ofChange fnBetweenSpec)

/-- ITS FALSE NEIGHBOUR: 'it returns false'. Refute it at one input. -/
def fnBetweenWrong : ChangeSpec := { name := "fnBetween", fn := fun _ => fun
  | [d] => { results := [.lit (.bool false)], args := [d] }
  | _ => none }
def FnBetweenWrongFalsely : Prop := fnBetweenRow.holds Tryz.pinned (OpenSpec.ofChange fnBetweenWrong)

/-- 'laws.FnExactSortScans': WHATEVER THE INPUT: true; the input reads as it did. -/
def fnExactSortScansSpec : ChangeSpec := { name := "fnExactSortScans", fn := fun _ => fun
  | [d1, d2] => { results := [.lit (.bool true)], args := [d1, d2] }
  | _ => none }
def fnExactSortScansRow : OpenClaim := { program := "ytamlbiagjipedaagreat", sum := "6a5e80f75356321e5f72abd566400159d7976d2a12df0b4fdb0a4c823c7fed62", func := "loop.example/g03014/laws.FnExactSortScans", spec := "fnExactSortScans", unfollowed := true, recurses := true, apart := false }
def FnExactSortScansSaid : Prop := fnExactSortScansRow.holds Tryz.pinned (OpenSpec.ofChange fnExactSortScansSpec)

/-- ITS FALSE NEIGHBOUR: 'it returns false'. Refute it at one input. -/
def fnExactSortScansWrong : ChangeSpec := { name := "fnExactSortScans", fn := fun _ => fun
  | [d1, d2] => { results := [.lit (.bool false)], args := [d1, d2] }
  | _ => none }
def FnExactSortScansWrongFalsely : Prop := fnExactSortScansRow.holds Tryz.pinned (OpenSpec.ofChange fnExactSortScansWrong)

/-- 'laws.FnExactScansOf': WHATEVER THE INPUT: true; the input reads as it did. -/
def fnExactScansOfSpec : ChangeSpec := { name := "fnExactScansOf", fn := fun _ => fun
  | [d1, d2, d3] => { results := [.lit (.bool true)], args := [d1, d2, d3] }
  | _ => none }
def fnExactScansOfRow : OpenClaim := { program := "ytamlbiagjipedaagreat", sum := "6a5e80f75356321e5f72abd566400159d7976d2a12df0b4fdb0a4c823c7fed62", func := "loop.example/g03014/laws.FnExactScansOf", spec := "fnExactScansOf", unfollowed := true, recurses := true, apart := false }
def FnExactScansOfSaid : Prop := fnExactScansOfRow.holds Tryz.pinned (OpenSpec.ofChange fnExactScansOfSpec)

/-- ITS FALSE NEIGHBOUR: 'it returns false'. Refute it at one input. -/
def fnExactScansOfWrong : ChangeSpec := { name := "fnExactScansOf", fn := fun _ => fun
  | [d1, d2, d3] => { results := [.lit (.bool false)], args := [d1, d2, d3] }
  | _ => none }
def FnExactScansOfWrongFalsely : Prop := fnExactScansOfRow.holds Tryz.pinned (OpenSpec.ofChange fnExactScansOfWrong)

/-- 'laws.FnExactCanFollow': WHATEVER THE INPUT: true; the input reads as it did. -/
def fnExactCanFollowSpec : ChangeSpec := { name := "fnExactCanFollow", fn := fun _ => fun
  | [d1, d2, d3] => { results := [.lit (.bool true)], args := [d1, d2, d3] }
  | _ => none }
def fnExactCanFollowRow : OpenClaim := { program := "ytamlbiagjipedaagreat", sum := "6a5e80f75356321e5f72abd566400159d7976d2a12df0b4fdb0a4c823c7fed62", func := "loop.example/g03014/laws.FnExactCanFollow", spec := "fnExactCanFollow", inPlace := ["maps.clone"], recurses := true, apart := false }
def FnExactCanFollowSaid : Prop := fnExactCanFollowRow.holds Tryz.pinned (OpenSpec.ofChange fnExactCanFollowSpec)

/-- ITS FALSE NEIGHBOUR: 'it returns false'. Refute it at one input. -/
def fnExactCanFollowWrong : ChangeSpec := { name := "fnExactCanFollow", fn := fun _ => fun
  | [d1, d2, d3] => { results := [.lit (.bool false)], args := [d1, d2, d3] }
  | _ => none }
def FnExactCanFollowWrongFalsely : Prop := fnExactCanFollowRow.holds Tryz.pinned (OpenSpec.ofChange fnExactCanFollowWrong)

/-- 'laws.FnExactClashes': WHATEVER THE INPUT: true; the input reads as it did. -/
def fnExactClashesSpec : ChangeSpec := { name := "fnExactClashes", fn := fun _ => fun
  | [d1, d2, d3] => { results := [.lit (.bool true)], args := [d1, d2, d3] }
  | _ => none }
def fnExactClashesRow : OpenClaim := { program := "ytamlbiagjipedaagreat", sum := "6a5e80f75356321e5f72abd566400159d7976d2a12df0b4fdb0a4c823c7fed62", func := "loop.example/g03014/laws.FnExactClashes", spec := "fnExactClashes", inPlace := ["maps.clone"], unfollowed := true, recurses := true, apart := false }
def FnExactClashesSaid : Prop := fnExactClashesRow.holds Tryz.pinned (OpenSpec.ofChange fnExactClashesSpec)

/-- ITS FALSE NEIGHBOUR: 'it returns false'. Refute it at one input. -/
def fnExactClashesWrong : ChangeSpec := { name := "fnExactClashes", fn := fun _ => fun
  | [d1, d2, d3] => { results := [.lit (.bool false)], args := [d1, d2, d3] }
  | _ => none }
def FnExactClashesWrongFalsely : Prop := fnExactClashesRow.holds Tryz.pinned (OpenSpec.ofChange fnExactClashesWrong)

/-- 'laws.FnExactCleaned': WHATEVER THE INPUT: true; the input reads as it did. -/
def fnExactCleanedSpec : ChangeSpec := { name := "fnExactCleaned", fn := fun _ => fun
  | [d1, d2, d3] => { results := [.lit (.bool true)], args := [d1, d2, d3] }
  | _ => none }
def fnExactCleanedRow : OpenClaim := { program := "ytamlbiagjipedaagreat", sum := "6a5e80f75356321e5f72abd566400159d7976d2a12df0b4fdb0a4c823c7fed62", func := "loop.example/g03014/laws.FnExactCleaned", spec := "fnExactCleaned", inPlace := ["maps.clone"], unfollowed := true, recurses := true, apart := false }
def FnExactCleanedSaid : Prop := fnExactCleanedRow.holds Tryz.pinned (OpenSpec.ofChange fnExactCleanedSpec)

/-- ITS FALSE NEIGHBOUR: 'it returns false'. Refute it at one input. -/
def fnExactCleanedWrong : ChangeSpec := { name := "fnExactCleaned", fn := fun _ => fun
  | [d1, d2, d3] => { results := [.lit (.bool false)], args := [d1, d2, d3] }
  | _ => none }
def FnExactCleanedWrongFalsely : Prop := fnExactCleanedRow.holds Tryz.pinned (OpenSpec.ofChange fnExactCleanedWrong)

/-- 'laws.FnExactLastScan': WHATEVER THE INPUT: true; the input reads as it did. -/
def fnExactLastScanSpec : ChangeSpec := { name := "fnExactLastScan", fn := fun _ => fun
  | [d1, d2, d3, d4] => { results := [.lit (.bool true)], args := [d1, d2, d3, d4] }
  | _ => none }
def fnExactLastScanRow : OpenClaim := { program := "ytamlbiagjipedaagreat", sum := "6a5e80f75356321e5f72abd566400159d7976d2a12df0b4fdb0a4c823c7fed62", func := "loop.example/g03014/laws.FnExactLastScan", spec := "fnExactLastScan", inPlace := ["maps.clone"], unfollowed := true, recurses := true, apart := false }
def FnExactLastScanSaid : Prop := fnExactLastScanRow.holds Tryz.pinned (OpenSpec.ofChange fnExactLastScanSpec)

/-- ITS FALSE NEIGHBOUR: 'it returns false'. Refute it at one input. -/
def fnExactLastScanWrong : ChangeSpec := { name := "fnExactLastScan", fn := fun _ => fun
  | [d1, d2, d3, d4] => { results := [.lit (.bool false)], args := [d1, d2, d3, d4] }
  | _ => none }
def FnExactLastScanWrongFalsely : Prop := fnExactLastScanRow.holds Tryz.pinned (OpenSpec.ofChange fnExactLastScanWrong)

/-- 'laws.FnExactNextScan': WHATEVER THE INPUT: true; the input reads as it did. -/
def fnExactNextScanSpec : ChangeSpec := { name := "fnExactNextScan", fn := fun _ => fun
  | [d1, d2, d3, d4] => { results := [.lit (.bool true)], args := [d1, d2, d3, d4] }
  | _ => none }
def fnExactNextScanRow : OpenClaim := { program := "ytamlbiagjipedaagreat", sum := "6a5e80f75356321e5f72abd566400159d7976d2a12df0b4fdb0a4c823c7fed62", func := "loop.example/g03014/laws.FnExactNextScan", spec := "fnExactNextScan", inPlace := ["maps.clone"], unfollowed := true, recurses := true, apart := false }
def FnExactNextScanSaid : Prop := fnExactNextScanRow.holds Tryz.pinned (OpenSpec.ofChange fnExactNextScanSpec)

/-- ITS FALSE NEIGHBOUR: 'it returns false'. Refute it at one input. -/
def fnExactNextScanWrong : ChangeSpec := { name := "fnExactNextScan", fn := fun _ => fun
  | [d1, d2, d3, d4] => { results := [.lit (.bool false)], args := [d1, d2, d3, d4] }
  | _ => none }
def FnExactNextScanWrongFalsely : Prop := fnExactNextScanRow.holds Tryz.pinned (OpenSpec.ofChange fnExactNextScanWrong)

/- THE SECOND FORM. 'bulk': how many values and letters a reading holds, each counted each time it is reached (what is shared counts as often as it is met; a slice's spare places count too). A statement '..UptoSaid' is the law's where the arguments, and the package variables that the reading takes, are together of bulk at most 1048576: NARROWER than '..Said'. Prove '..Said' where nothing that the law and all that it calls make is longer than what came in: it says more and counts as full. Else prove '..UptoSaid'. A law counts once. -/
mutual
def uptoBulk {H : Type} : DataW H → Nat
  | .lit (.string bytes) => bytes.length + 1
  | .lit _ => 1
  | .nil => 1
  | .ptr d => uptoBulk d + 1
  | .slice elems spare => uptoBulkAll elems + uptoBulkAll spare + 1
  | .agg parts => uptoBulkAll parts + 1
  | .iface _ d => uptoBulk d + 1
  | .map entries => uptoBulkEntries entries + 1
  | .held _ => 1
def uptoBulkAll {H : Type} : List (DataW H) → Nat
  | [] => 0
  | d :: r => uptoBulk d + uptoBulkAll r
def uptoBulkEntries {H : Type} : List (Lit × DataW H) → Nat
  | [] => 0
  | x :: r => uptoBulkEntry x + uptoBulkEntries r
def uptoBulkEntry {H : Type} : Lit × DataW H → Nat
  | (.string bytes, d) => bytes.length + uptoBulk d + 1
  | (_, d) => uptoBulk d + 1
 end
def uptoSmall : (H : Type) → List (DataW H) → Bool := fun _ ds => decide (uptoBulkAll ds ≤ 1048576)
def OpenSpec.upto (s : _root_.Go.ChangeSpec) : _root_.Go.OpenSpec := { _root_.Go.OpenSpec.ofChange s with cond := some uptoSmall }

/-- 'laws.FnScanOrder', WHERE WHAT IT READS IS OF BULK AT MOST 1048576: true; the input reads as it did. -/
def fnScanOrderUptoRow : OpenClaim := { program := "ytamlbiagjipedaagreat", sum := "6a5e80f75356321e5f72abd566400159d7976d2a12df0b4fdb0a4c823c7fed62", func := "loop.example/g03014/laws.FnScanOrder", spec := "fnScanOrder", inPlace := ["maps.clone"], unfollowed := true, recurses := true, apart := false, narrowed := true }
def FnScanOrderUptoSaid : Prop := fnScanOrderUptoRow.holds Tryz.pinned (OpenSpec.upto fnScanOrderSpec)

/-- 'laws.FnStory', WHERE WHAT IT READS IS OF BULK AT MOST 1048576: true; the input reads as it did. -/
def fnStoryUptoRow : OpenClaim := { program := "ytamlbiagjipedaagreat", sum := "6a5e80f75356321e5f72abd566400159d7976d2a12df0b4fdb0a4c823c7fed62", func := "loop.example/g03014/laws.FnStory", spec := "fnStory", inPlace := ["maps.clone"], unfollowed := true, recurses := true, apart := false, narrowed := true }
def FnStoryUptoSaid : Prop := fnStoryUptoRow.holds Tryz.pinned (OpenSpec.upto fnStorySpec)

/-- 'laws.FnCleaned', WHERE WHAT IT READS IS OF BULK AT MOST 1048576: true; the input reads as it did. -/
def fnCleanedUptoRow : OpenClaim := { program := "ytamlbiagjipedaagreat", sum := "6a5e80f75356321e5f72abd566400159d7976d2a12df0b4fdb0a4c823c7fed62", func := "loop.example/g03014/laws.FnCleaned", spec := "fnCleaned", inPlace := ["maps.clone"], unfollowed := true, recurses := true, apart := false, narrowed := true }
def FnCleanedUptoSaid : Prop := fnCleanedUptoRow.holds Tryz.pinned (OpenSpec.upto fnCleanedSpec)

/-- 'laws.FnBetween', WHERE WHAT IT READS IS OF BULK AT MOST 1048576: true; the input reads as it did. -/
def fnBetweenUptoRow : OpenClaim := { program := "ytamlbiagjipedaagreat", sum := "6a5e80f75356321e5f72abd566400159d7976d2a12df0b4fdb0a4c823c7fed62", func := "loop.example/g03014/laws.FnBetween", spec := "fnBetween", inPlace := ["maps.clone"], unfollowed := true, recurses := true, apart := false, narrowed := true }
def FnBetweenUptoSaid : Prop := fnBetweenUptoRow.holds Tryz.pinned (OpenSpec.upto fnBetweenSpec)

/-- 'laws.FnExactSortScans', WHERE WHAT IT READS IS OF BULK AT MOST 1048576: true; the input reads as it did. -/
def fnExactSortScansUptoRow : OpenClaim := { program := "ytamlbiagjipedaagreat", sum := "6a5e80f75356321e5f72abd566400159d7976d2a12df0b4fdb0a4c823c7fed62", func := "loop.example/g03014/laws.FnExactSortScans", spec := "fnExactSortScans", unfollowed := true, recurses := true, apart := false, narrowed := true }
def FnExactSortScansUptoSaid : Prop := fnExactSortScansUptoRow.holds Tryz.pinned (OpenSpec.upto fnExactSortScansSpec)

/-- 'laws.FnExactScansOf', WHERE WHAT IT READS IS OF BULK AT MOST 1048576: true; the input reads as it did. -/
def fnExactScansOfUptoRow : OpenClaim := { program := "ytamlbiagjipedaagreat", sum := "6a5e80f75356321e5f72abd566400159d7976d2a12df0b4fdb0a4c823c7fed62", func := "loop.example/g03014/laws.FnExactScansOf", spec := "fnExactScansOf", unfollowed := true, recurses := true, apart := false, narrowed := true }
def FnExactScansOfUptoSaid : Prop := fnExactScansOfUptoRow.holds Tryz.pinned (OpenSpec.upto fnExactScansOfSpec)

/-- 'laws.FnExactCanFollow', WHERE WHAT IT READS IS OF BULK AT MOST 1048576: true; the input reads as it did. -/
def fnExactCanFollowUptoRow : OpenClaim := { program := "ytamlbiagjipedaagreat", sum := "6a5e80f75356321e5f72abd566400159d7976d2a12df0b4fdb0a4c823c7fed62", func := "loop.example/g03014/laws.FnExactCanFollow", spec := "fnExactCanFollow", inPlace := ["maps.clone"], recurses := true, apart := false, narrowed := true }
def FnExactCanFollowUptoSaid : Prop := fnExactCanFollowUptoRow.holds Tryz.pinned (OpenSpec.upto fnExactCanFollowSpec)

/-- 'laws.FnExactClashes', WHERE WHAT IT READS IS OF BULK AT MOST 1048576: true; the input reads as it did. -/
def fnExactClashesUptoRow : OpenClaim := { program := "ytamlbiagjipedaagreat", sum := "6a5e80f75356321e5f72abd566400159d7976d2a12df0b4fdb0a4c823c7fed62", func := "loop.example/g03014/laws.FnExactClashes", spec := "fnExactClashes", inPlace := ["maps.clone"], unfollowed := true, recurses := true, apart := false, narrowed := true }
def FnExactClashesUptoSaid : Prop := fnExactClashesUptoRow.holds Tryz.pinned (OpenSpec.upto fnExactClashesSpec)

/-- 'laws.FnExactCleaned', WHERE WHAT IT READS IS OF BULK AT MOST 1048576: true; the input reads as it did. -/
def fnExactCleanedUptoRow : OpenClaim := { program := "ytamlbiagjipedaagreat", sum := "6a5e80f75356321e5f72abd566400159d7976d2a12df0b4fdb0a4c823c7fed62", func := "loop.example/g03014/laws.FnExactCleaned", spec := "fnExactCleaned", inPlace := ["maps.clone"], unfollowed := true, recurses := true, apart := false, narrowed := true }
def FnExactCleanedUptoSaid : Prop := fnExactCleanedUptoRow.holds Tryz.pinned (OpenSpec.upto fnExactCleanedSpec)

/-- 'laws.FnExactLastScan', WHERE WHAT IT READS IS OF BULK AT MOST 1048576: true; the input reads as it did. -/
def fnExactLastScanUptoRow : OpenClaim := { program := "ytamlbiagjipedaagreat", sum := "6a5e80f75356321e5f72abd566400159d7976d2a12df0b4fdb0a4c823c7fed62", func := "loop.example/g03014/laws.FnExactLastScan", spec := "fnExactLastScan", inPlace := ["maps.clone"], unfollowed := true, recurses := true, apart := false, narrowed := true }
def FnExactLastScanUptoSaid : Prop := fnExactLastScanUptoRow.holds Tryz.pinned (OpenSpec.upto fnExactLastScanSpec)

/-- 'laws.FnExactNextScan', WHERE WHAT IT READS IS OF BULK AT MOST 1048576: true; the input reads as it did. -/
def fnExactNextScanUptoRow : OpenClaim := { program := "ytamlbiagjipedaagreat", sum := "6a5e80f75356321e5f72abd566400159d7976d2a12df0b4fdb0a4c823c7fed62", func := "loop.example/g03014/laws.FnExactNextScan", spec := "fnExactNextScan", inPlace := ["maps.clone"], unfollowed := true, recurses := true, apart := false, narrowed := true }
def FnExactNextScanUptoSaid : Prop := fnExactNextScanUptoRow.holds Tryz.pinned (OpenSpec.upto fnExactNextScanSpec)

end Rows
end Go.Proofs.YtamlbiagjipedaaGreat
