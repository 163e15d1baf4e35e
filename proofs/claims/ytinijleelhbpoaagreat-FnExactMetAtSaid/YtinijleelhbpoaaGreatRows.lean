/-
  No cell of these rows narrows 'for every input' (looked for: loops, veiled, ifaces, maps, wideKeys, modest, calm, conditions, laid).
  DERIVED. THE GIVEN ROWS OF THIS SEAT. 12 by the template 'for every input the law returns true; each argument reads behind the call as it read before'; 0 by the template 'total and deterministic' (their statements: YtinijleelhbpoaaGreatTotals.lean).
  GIVEN WITH THE SEED: the statements are not yours to turn. If you find one false, say at which input.
  Laid BY PROGRAM, IN A SANDBOX (cutbox-rows.mjs): the forced cells as the released guide's own fill.sh prints them over the translation bca537bd2289db35… (all of the seat's roots in one cut). By AI agents, Wed Nov 11 2026. No macro, syntax, notation, axiom, sorry.
-/
import Derived.Test.YtinijleelhbpoaaGreatChecked
import GoSem.Claim
import GoSem.ClaimJoined
import GoSem.ClaimMapViews
import Derived.JoinedTies
import Derived.KernelRfl
namespace Go.Proofs.YtinijleelhbpoaaGreat
/- THE CELL 'sum', in the pinned program and in every row, IS THE sha256 OF THE DUMP (.gsa) THAT YtinijleelhbpoaaGreatProg.lean LOADS. Nothing in Lean hashes anything: it is a label: what it is worth is what the hold of that sum in a sandbox is worth. -/
noncomputable def Tryz.pinned : Pinned := { name := "ytinijleelhbpoaagreat", sum := "bca537bd2289db354c2d5ae2449d552a3974085f1a5fb329b68675ce3378f1c2", checked := Tryz.checked }
namespace Rows
def none {H : Type} : Left H := { results := [], args := [] }

/-- 'laws.FnScanOrder': WHATEVER THE INPUT: true; the input reads as it did. -/
def fnScanOrderSpec : ChangeSpec := { name := "fnScanOrder", fn := fun _ => fun
  | [d] => { results := [.lit (.bool true)], args := [d] }
  | _ => none }
def fnScanOrderRow : OpenClaim := { program := "ytinijleelhbpoaagreat", sum := "bca537bd2289db354c2d5ae2449d552a3974085f1a5fb329b68675ce3378f1c2", func := "loop.example/g03014/laws.FnScanOrder", spec := "fnScanOrder", inPlace := ["maps.clone"], unfollowed := true, recurses := true, apart := false }
def FnScanOrderSaid : Prop := fnScanOrderRow.holds Tryz.pinned (OpenSpec.ofChange fnScanOrderSpec)

/-- ITS FALSE NEIGHBOUR: 'it returns false'. Refute it at one input. -/
def fnScanOrderWrong : ChangeSpec := { name := "fnScanOrder", fn := fun _ => fun
  | [d] => { results := [.lit (.bool false)], args := [d] }
  | _ => none }
def FnScanOrderWrongFalsely : Prop := fnScanOrderRow.holds Tryz.pinned (OpenSpec.ofChange fnScanOrderWrong)

/-- 'laws.FnCleaned': WHATEVER THE INPUT: true; the input reads as it did. -/
def fnCleanedSpec : ChangeSpec := { name := "fnCleaned", fn := fun _ => fun
  | [d] => { results := [.lit (.bool true)], args := [d] }
  | _ => none }
def fnCleanedRow : OpenClaim := { program := "ytinijleelhbpoaagreat", sum := "bca537bd2289db354c2d5ae2449d552a3974085f1a5fb329b68675ce3378f1c2", func := "loop.example/g03014/laws.FnCleaned", spec := "fnCleaned", inPlace := ["maps.clone"], unfollowed := true, recurses := true, apart := false }
def FnCleanedSaid : Prop := fnCleanedRow.holds Tryz.pinned (OpenSpec.ofChange fnCleanedSpec)

/-- ITS FALSE NEIGHBOUR: 'it returns false'. Refute it at one input. -/
def fnCleanedWrong : ChangeSpec := { name := "fnCleaned", fn := fun _ => fun
  | [d] => { results := [.lit (.bool false)], args := [d] }
  | _ => none }
def FnCleanedWrongFalsely : Prop := fnCleanedRow.holds Tryz.pinned (OpenSpec.ofChange fnCleanedWrong)

/-- 'laws.FnBetween': WHATEVER THE INPUT: true; the input reads as it did. -/
def fnBetweenSpec : ChangeSpec := { name := "fnBetween", fn := fun _ => fun
  | [d] => { results := [.lit (.bool true)], args := [d] }
  | _ => none }
def fnBetweenRow : OpenClaim := { program := "ytinijleelhbpoaagreat", sum := "bca537bd2289db354c2d5ae2449d552a3974085f1a5fb329b68675ce3378f1c2", func := "loop.example/g03014/laws.FnBetween", spec := "fnBetween", inPlace := ["maps.clone"], unfollowed := true, recurses := true, apart := false }
def FnBetweenSaid : Prop := fnBetweenRow.holds Tryz.pinned (OpenSpec.ofChange fnBetweenSpec)

/-- ITS FALSE NEIGHBOUR: 'it returns false'. Refute it at one input. -/
def fnBetweenWrong : ChangeSpec := { name := "fnBetween", fn := fun _ => fun
  | [d] => { results := [.lit (.bool false)], args := [d] }
  | _ => none }
def FnBetweenWrongFalsely : Prop := fnBetweenRow.holds Tryz.pinned (OpenSpec.ofChange fnBetweenWrong)

/-- 'laws.FnTruth': WHATEVER THE INPUT: true; the input reads as it did. -/
def fnTruthSpec : ChangeSpec := { name := "fnTruth", fn := fun _ => fun
  | [d] => { results := [.lit (.bool true)], args := [d] }
  | _ => none }
def fnTruthRow : OpenClaim := { program := "ytinijleelhbpoaagreat", sum := "bca537bd2289db354c2d5ae2449d552a3974085f1a5fb329b68675ce3378f1c2", func := "loop.example/g03014/laws.FnTruth", spec := "fnTruth", inPlace := ["maps.clone"], unfollowed := true, recurses := true, apart := false }
def FnTruthSaid : Prop := fnTruthRow.holds Tryz.pinned (OpenSpec.ofChange fnTruthSpec)

/-- ITS FALSE NEIGHBOUR: 'it returns false'. Refute it at one input. -/
def fnTruthWrong : ChangeSpec := { name := "fnTruth", fn := fun _ => fun
  | [d] => { results := [.lit (.bool false)], args := [d] }
  | _ => none }
def FnTruthWrongFalsely : Prop := fnTruthRow.holds Tryz.pinned (OpenSpec.ofChange fnTruthWrong)

/-- 'laws.FnSure': WHATEVER THE INPUT: true; the input reads as it did. -/
def fnSureSpec : ChangeSpec := { name := "fnSure", fn := fun _ => fun
  | [d] => { results := [.lit (.bool true)], args := [d] }
  | _ => none }
def fnSureRow : OpenClaim := { program := "ytinijleelhbpoaagreat", sum := "bca537bd2289db354c2d5ae2449d552a3974085f1a5fb329b68675ce3378f1c2", func := "loop.example/g03014/laws.FnSure", spec := "fnSure", inPlace := ["maps.clone"], unfollowed := true, recurses := true, apart := false }
def FnSureSaid : Prop := fnSureRow.holds Tryz.pinned (OpenSpec.ofChange fnSureSpec)

/-- ITS FALSE NEIGHBOUR: 'it returns false'. Refute it at one input. -/
def fnSureWrong : ChangeSpec := { name := "fnSure", fn := fun _ => fun
  | [d] => { results := [.lit (.bool false)], args := [d] }
  | _ => none }
def FnSureWrongFalsely : Prop := fnSureRow.holds Tryz.pinned (OpenSpec.ofChange fnSureWrong)

/-- 'laws.FnMoreSeen': WHATEVER THE INPUT: true; the input reads as it did. -/
def fnMoreSeenSpec : ChangeSpec := { name := "fnMoreSeen", fn := fun _ => fun
  | [d] => { results := [.lit (.bool true)], args := [d] }
  | _ => none }
def fnMoreSeenRow : OpenClaim := { program := "ytinijleelhbpoaagreat", sum := "bca537bd2289db354c2d5ae2449d552a3974085f1a5fb329b68675ce3378f1c2", func := "loop.example/g03014/laws.FnMoreSeen", spec := "fnMoreSeen", inPlace := ["maps.clone"], unfollowed := true, recurses := true, apart := false }
def FnMoreSeenSaid : Prop := fnMoreSeenRow.holds Tryz.pinned (OpenSpec.ofChange fnMoreSeenSpec)

/-- ITS FALSE NEIGHBOUR: 'it returns false'. Refute it at one input. -/
def fnMoreSeenWrong : ChangeSpec := { name := "fnMoreSeen", fn := fun _ => fun
  | [d] => { results := [.lit (.bool false)], args := [d] }
  | _ => none }
def FnMoreSeenWrongFalsely : Prop := fnMoreSeenRow.holds Tryz.pinned (OpenSpec.ofChange fnMoreSeenWrong)

/-- 'laws.FnExactMayBeAt': WHATEVER THE INPUT: true; the input reads as it did. -/
def fnExactMayBeAtSpec : ChangeSpec := { name := "fnExactMayBeAt", fn := fun _ => fun
  | [d1, d2, d3, d4, d5] => { results := [.lit (.bool true)], args := [d1, d2, d3, d4, d5] }
  | _ => none }
def fnExactMayBeAtRow : OpenClaim := { program := "ytinijleelhbpoaagreat", sum := "bca537bd2289db354c2d5ae2449d552a3974085f1a5fb329b68675ce3378f1c2", func := "loop.example/g03014/laws.FnExactMayBeAt", spec := "fnExactMayBeAt", inPlace := ["maps.clone"], unfollowed := true, recurses := true, apart := false }
def FnExactMayBeAtSaid : Prop := fnExactMayBeAtRow.holds Tryz.pinned (OpenSpec.ofChange fnExactMayBeAtSpec)

/-- ITS FALSE NEIGHBOUR: 'it returns false'. Refute it at one input. -/
def fnExactMayBeAtWrong : ChangeSpec := { name := "fnExactMayBeAt", fn := fun _ => fun
  | [d1, d2, d3, d4, d5] => { results := [.lit (.bool false)], args := [d1, d2, d3, d4, d5] }
  | _ => none }
def FnExactMayBeAtWrongFalsely : Prop := fnExactMayBeAtRow.holds Tryz.pinned (OpenSpec.ofChange fnExactMayBeAtWrong)

/-- 'laws.FnExactMayRide': WHATEVER THE INPUT: true; the input reads as it did. -/
def fnExactMayRideSpec : ChangeSpec := { name := "fnExactMayRide", fn := fun _ => fun
  | [d1, d2, d3, d4, d5] => { results := [.lit (.bool true)], args := [d1, d2, d3, d4, d5] }
  | _ => none }
def fnExactMayRideRow : OpenClaim := { program := "ytinijleelhbpoaagreat", sum := "bca537bd2289db354c2d5ae2449d552a3974085f1a5fb329b68675ce3378f1c2", func := "loop.example/g03014/laws.FnExactMayRide", spec := "fnExactMayRide", inPlace := ["maps.clone"], unfollowed := true, recurses := true, apart := false }
def FnExactMayRideSaid : Prop := fnExactMayRideRow.holds Tryz.pinned (OpenSpec.ofChange fnExactMayRideSpec)

/-- ITS FALSE NEIGHBOUR: 'it returns false'. Refute it at one input. -/
def fnExactMayRideWrong : ChangeSpec := { name := "fnExactMayRide", fn := fun _ => fun
  | [d1, d2, d3, d4, d5] => { results := [.lit (.bool false)], args := [d1, d2, d3, d4, d5] }
  | _ => none }
def FnExactMayRideWrongFalsely : Prop := fnExactMayRideRow.holds Tryz.pinned (OpenSpec.ofChange fnExactMayRideWrong)

/-- 'laws.FnExactBeliefOf': WHATEVER THE INPUT: true; the input reads as it did. -/
def fnExactBeliefOfSpec : ChangeSpec := { name := "fnExactBeliefOf", fn := fun _ => fun
  | [d1, d2, d3, d4] => { results := [.lit (.bool true)], args := [d1, d2, d3, d4] }
  | _ => none }
def fnExactBeliefOfRow : OpenClaim := { program := "ytinijleelhbpoaagreat", sum := "bca537bd2289db354c2d5ae2449d552a3974085f1a5fb329b68675ce3378f1c2", func := "loop.example/g03014/laws.FnExactBeliefOf", spec := "fnExactBeliefOf", inPlace := ["maps.clone"], unfollowed := true, recurses := true, apart := false }
def FnExactBeliefOfSaid : Prop := fnExactBeliefOfRow.holds Tryz.pinned (OpenSpec.ofChange fnExactBeliefOfSpec)

/-- ITS FALSE NEIGHBOUR: 'it returns false'. Refute it at one input. -/
def fnExactBeliefOfWrong : ChangeSpec := { name := "fnExactBeliefOf", fn := fun _ => fun
  | [d1, d2, d3, d4] => { results := [.lit (.bool false)], args := [d1, d2, d3, d4] }
  | _ => none }
def FnExactBeliefOfWrongFalsely : Prop := fnExactBeliefOfRow.holds Tryz.pinned (OpenSpec.ofChange fnExactBeliefOfWrong)

/-- 'laws.FnExactIsSure': WHATEVER THE INPUT: true; the input reads as it did. -/
def fnExactIsSureSpec : ChangeSpec := { name := "fnExactIsSure", fn := fun _ => fun
  | [d1, d2, d3, d4] => { results := [.lit (.bool true)], args := [d1, d2, d3, d4] }
  | _ => none }
def fnExactIsSureRow : OpenClaim := { program := "ytinijleelhbpoaagreat", sum := "bca537bd2289db354c2d5ae2449d552a3974085f1a5fb329b68675ce3378f1c2", func := "loop.example/g03014/laws.FnExactIsSure", spec := "fnExactIsSure", inPlace := ["maps.clone"], unfollowed := true, recurses := true, apart := false }
def FnExactIsSureSaid : Prop := fnExactIsSureRow.holds Tryz.pinned (OpenSpec.ofChange fnExactIsSureSpec)

/-- ITS FALSE NEIGHBOUR: 'it returns false'. Refute it at one input. -/
def fnExactIsSureWrong : ChangeSpec := { name := "fnExactIsSure", fn := fun _ => fun
  | [d1, d2, d3, d4] => { results := [.lit (.bool false)], args := [d1, d2, d3, d4] }
  | _ => none }
def FnExactIsSureWrongFalsely : Prop := fnExactIsSureRow.holds Tryz.pinned (OpenSpec.ofChange fnExactIsSureWrong)

/-- 'laws.FnExactSoonestAt': WHATEVER THE INPUT: true; the input reads as it did. -/
def fnExactSoonestAtSpec : ChangeSpec := { name := "fnExactSoonestAt", fn := fun _ => fun
  | [d1, d2, d3, d4] => { results := [.lit (.bool true)], args := [d1, d2, d3, d4] }
  | _ => none }
def fnExactSoonestAtRow : OpenClaim := { program := "ytinijleelhbpoaagreat", sum := "bca537bd2289db354c2d5ae2449d552a3974085f1a5fb329b68675ce3378f1c2", func := "loop.example/g03014/laws.FnExactSoonestAt", spec := "fnExactSoonestAt", inPlace := ["maps.clone"], unfollowed := true, recurses := true, apart := false }
def FnExactSoonestAtSaid : Prop := fnExactSoonestAtRow.holds Tryz.pinned (OpenSpec.ofChange fnExactSoonestAtSpec)

/-- ITS FALSE NEIGHBOUR: 'it returns false'. Refute it at one input. -/
def fnExactSoonestAtWrong : ChangeSpec := { name := "fnExactSoonestAt", fn := fun _ => fun
  | [d1, d2, d3, d4] => { results := [.lit (.bool false)], args := [d1, d2, d3, d4] }
  | _ => none }
def FnExactSoonestAtWrongFalsely : Prop := fnExactSoonestAtRow.holds Tryz.pinned (OpenSpec.ofChange fnExactSoonestAtWrong)

/-- 'laws.FnExactMetAt': WHATEVER THE INPUT: true; the input reads as it did. -/
def fnExactMetAtSpec : ChangeSpec := { name := "fnExactMetAt", fn := fun _ => fun
  | [d1, d2, d3, d4, d5] => { results := [.lit (.bool true)], args := [d1, d2, d3, d4, d5] }
  | _ => none }
def fnExactMetAtRow : OpenClaim := { program := "ytinijleelhbpoaagreat", sum := "bca537bd2289db354c2d5ae2449d552a3974085f1a5fb329b68675ce3378f1c2", func := "loop.example/g03014/laws.FnExactMetAt", spec := "fnExactMetAt", inPlace := ["maps.clone"], unfollowed := true, recurses := true, apart := false }
def FnExactMetAtSaid : Prop := fnExactMetAtRow.holds Tryz.pinned (OpenSpec.ofChange fnExactMetAtSpec)

/-- ITS FALSE NEIGHBOUR: 'it returns false'. Refute it at one input. -/
def fnExactMetAtWrong : ChangeSpec := { name := "fnExactMetAt", fn := fun _ => fun
  | [d1, d2, d3, d4, d5] => { results := [.lit (.bool false)], args := [d1, d2, d3, d4, d5] }
  | _ => none }
def FnExactMetAtWrongFalsely : Prop := fnExactMetAtRow.holds Tryz.pinned (OpenSpec.ofChange fnExactMetAtWrong)

/- THE SECOND FORM. 'bulk': how many values and letters a reading holds, each counted each time it is reached (what is shared counts as often as it is met; a slice's spare places count too). A statement '..UptoSaid' is the law's where the arguments, and the package variables that the reading takes, are together of bulk at most 1048576: NARROWER than '..Said'. Prove '..Said' where nothing that the law and all that it calls make is longer than what came in: it says more and counts as full. Else prove '..UptoSaid'. A law counts once. -/
mutual
def uptoBulk {H : Type} : DataW H → Nat
  | .lit (.string bytes) => bytes.length + 1
  | .lit _ => 1
  | .nil => 1
  | .ptr d => uptoBulk d + 1
  | .slice elems spare => uptoBulkAll elems + uptoBulkAll spare + 1
  | .agg parts => uptoBulkAll parts + 1
  | .iface _ d => uptoBulk d + 1
  | .map entries => uptoBulkEntries entries + 1
  | .held _ => 1
def uptoBulkAll {H : Type} : List (DataW H) → Nat
  | [] => 0
  | d :: r => uptoBulk d + uptoBulkAll r
def uptoBulkEntries {H : Type} : List (Lit × DataW H) → Nat
  | [] => 0
  | x :: r => uptoBulkEntry x + uptoBulkEntries r
def uptoBulkEntry {H : Type} : Lit × DataW H → Nat
  | (.string bytes, d) => bytes.length + uptoBulk d + 1
  | (_, d) => uptoBulk d + 1
 end
def uptoSmall : (H : Type) → List (DataW H) → Bool := fun _ ds => decide (uptoBulkAll ds ≤ 1048576)
def OpenSpec.upto (s : _root_.Go.ChangeSpec) : _root_.Go.OpenSpec := { _root_.Go.OpenSpec.ofChange s with cond := some uptoSmall }

/-- 'laws.FnScanOrder', WHERE WHAT IT READS IS OF BULK AT MOST 1048576: true; the input reads as it did. -/
def fnScanOrderUptoRow : OpenClaim := { program := "ytinijleelhbpoaagreat", sum := "bca537bd2289db354c2d5ae2449d552a3974085f1a5fb329b68675ce3378f1c2", func := "loop.example/g03014/laws.FnScanOrder", spec := "fnScanOrder", inPlace := ["maps.clone"], unfollowed := true, recurses := true, apart := false, narrowed := true }
def FnScanOrderUptoSaid : Prop := fnScanOrderUptoRow.holds Tryz.pinned (OpenSpec.upto fnScanOrderSpec)

/-- 'laws.FnCleaned', WHERE WHAT IT READS IS OF BULK AT MOST 1048576: true; the input reads as it did. -/
def fnCleanedUptoRow : OpenClaim := { program := "ytinijleelhbpoaagreat", sum := "bca537bd2289db354c2d5ae2449d552a3974085f1a5fb329b68675ce3378f1c2", func := "loop.example/g03014/laws.FnCleaned", spec := "fnCleaned", inPlace := ["maps.clone"], unfollowed := true, recurses := true, apart := false, narrowed := true }
def FnCleanedUptoSaid : Prop := fnCleanedUptoRow.holds Tryz.pinned (OpenSpec.upto fnCleanedSpec)

/-- 'laws.FnBetween', WHERE WHAT IT READS IS OF BULK AT MOST 1048576: true; the input reads as it did. -/
def fnBetweenUptoRow : OpenClaim := { program := "ytinijleelhbpoaagreat", sum := "bca537bd2289db354c2d5ae2449d552a3974085f1a5fb329b68675ce3378f1c2", func := "loop.example/g03014/laws.FnBetween", spec := "fnBetween", inPlace := ["maps.clone"], unfollowed := true, recurses := true, apart := false, narrowed := true }
def FnBetweenUptoSaid : Prop := fnBetweenUptoRow.holds Tryz.pinned (OpenSpec.upto fnBetweenSpec)

/-- 'laws.FnTruth', WHERE WHAT IT READS IS OF BULK AT MOST 1048576: true; the input reads as it did. -/
def fnTruthUptoRow : OpenClaim := { program := "ytinijleelhbpoaagreat", sum := "bca537bd2289db354c2d5ae2449d552a3974085f1a5fb329b68675ce3378f1c2", func := "loop.example/g03014/laws.FnTruth", spec := "fnTruth", inPlace := ["maps.clone"], unfollowed := true, recurses := true, apart := false, narrowed := true }
def FnTruthUptoSaid : Prop := fnTruthUptoRow.holds Tryz.pinned (OpenSpec.upto fnTruthSpec)

/-- 'laws.FnSure', WHERE WHAT IT READS IS OF BULK AT MOST 1048576: true; the input reads as it did. -/
def fnSureUptoRow : OpenClaim := { program := "ytinijleelhbpoaagreat", sum := "bca537bd2289db354c2d5ae2449d552a3974085f1a5fb329b68675ce3378f1c2", func := "loop.example/g03014/laws.FnSure", spec := "fnSure", inPlace := ["maps.clone"], unfollowed := true, recurses := true, apart := false, narrowed := true }
def FnSureUptoSaid : Prop := fnSureUptoRow.holds Tryz.pinned (OpenSpec.upto fnSureSpec)

/-- 'laws.FnMoreSeen', WHERE WHAT IT READS IS OF BULK AT MOST 1048576: true; the input reads as it did. -/
def fnMoreSeenUptoRow : OpenClaim := { program := "ytinijleelhbpoaagreat", sum := "bca537bd2289db354c2d5ae2449d552a3974085f1a5fb329b68675ce3378f1c2", func := "loop.example/g03014/laws.FnMoreSeen", spec := "fnMoreSeen", inPlace := ["maps.clone"], unfollowed := true, recurses := true, apart := false, narrowed := true }
def FnMoreSeenUptoSaid : Prop := fnMoreSeenUptoRow.holds Tryz.pinned (OpenSpec.upto fnMoreSeenSpec)

/-- 'laws.FnExactMayBeAt', WHERE WHAT IT READS IS OF BULK AT MOST 1048576: true; the input reads as it did. -/
def fnExactMayBeAtUptoRow : OpenClaim := { program := "ytinijleelhbpoaagreat", sum := "bca537bd2289db354c2d5ae2449d552a3974085f1a5fb329b68675ce3378f1c2", func := "loop.example/g03014/laws.FnExactMayBeAt", spec := "fnExactMayBeAt", inPlace := ["maps.clone"], unfollowed := true, recurses := true, apart := false, narrowed := true }
def FnExactMayBeAtUptoSaid : Prop := fnExactMayBeAtUptoRow.holds Tryz.pinned (OpenSpec.upto fnExactMayBeAtSpec)

/-- 'laws.FnExactMayRide', WHERE WHAT IT READS IS OF BULK AT MOST 1048576: true; the input reads as it did. -/
def fnExactMayRideUptoRow : OpenClaim := { program := "ytinijleelhbpoaagreat", sum := "bca537bd2289db354c2d5ae2449d552a3974085f1a5fb329b68675ce3378f1c2", func := "loop.example/g03014/laws.FnExactMayRide", spec := "fnExactMayRide", inPlace := ["maps.clone"], unfollowed := true, recurses := true, apart := false, narrowed := true }
def FnExactMayRideUptoSaid : Prop := fnExactMayRideUptoRow.holds Tryz.pinned (OpenSpec.upto fnExactMayRideSpec)

/-- 'laws.FnExactBeliefOf', WHERE WHAT IT READS IS OF BULK AT MOST 1048576: true; the input reads as it did. -/
def fnExactBeliefOfUptoRow : OpenClaim := { program := "ytinijleelhbpoaagreat", sum := "bca537bd2289db354c2d5ae2449d552a3974085f1a5fb329b68675ce3378f1c2", func := "loop.example/g03014/laws.FnExactBeliefOf", spec := "fnExactBeliefOf", inPlace := ["maps.clone"], unfollowed := true, recurses := true, apart := false, narrowed := true }
def FnExactBeliefOfUptoSaid : Prop := fnExactBeliefOfUptoRow.holds Tryz.pinned (OpenSpec.upto fnExactBeliefOfSpec)

/-- 'laws.FnExactIsSure', WHERE WHAT IT READS IS OF BULK AT MOST 1048576: true; the input reads as it did. -/
def fnExactIsSureUptoRow : OpenClaim := { program := "ytinijleelhbpoaagreat", sum := "bca537bd2289db354c2d5ae2449d552a3974085f1a5fb329b68675ce3378f1c2", func := "loop.example/g03014/laws.FnExactIsSure", spec := "fnExactIsSure", inPlace := ["maps.clone"], unfollowed := true, recurses := true, apart := false, narrowed := true }
def FnExactIsSureUptoSaid : Prop := fnExactIsSureUptoRow.holds Tryz.pinned (OpenSpec.upto fnExactIsSureSpec)

/-- 'laws.FnExactSoonestAt', WHERE WHAT IT READS IS OF BULK AT MOST 1048576: true; the input reads as it did. -/
def fnExactSoonestAtUptoRow : OpenClaim := { program := "ytinijleelhbpoaagreat", sum := "bca537bd2289db354c2d5ae2449d552a3974085f1a5fb329b68675ce3378f1c2", func := "loop.example/g03014/laws.FnExactSoonestAt", spec := "fnExactSoonestAt", inPlace := ["maps.clone"], unfollowed := true, recurses := true, apart := false, narrowed := true }
def FnExactSoonestAtUptoSaid : Prop := fnExactSoonestAtUptoRow.holds Tryz.pinned (OpenSpec.upto fnExactSoonestAtSpec)

/-- 'laws.FnExactMetAt', WHERE WHAT IT READS IS OF BULK AT MOST 1048576: true; the input reads as it did. -/
def fnExactMetAtUptoRow : OpenClaim := { program := "ytinijleelhbpoaagreat", sum := "bca537bd2289db354c2d5ae2449d552a3974085f1a5fb329b68675ce3378f1c2", func := "loop.example/g03014/laws.FnExactMetAt", spec := "fnExactMetAt", inPlace := ["maps.clone"], unfollowed := true, recurses := true, apart := false, narrowed := true }
def FnExactMetAtUptoSaid : Prop := fnExactMetAtUptoRow.holds Tryz.pinned (OpenSpec.upto fnExactMetAtSpec)

end Rows
end Go.Proofs.YtinijleelhbpoaaGreat
