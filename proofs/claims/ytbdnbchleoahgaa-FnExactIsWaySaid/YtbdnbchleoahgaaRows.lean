/-
  No cell of these rows narrows 'for every input' (looked for: loops, veiled, ifaces, maps, wideKeys, modest, calm, conditions, laid).
  DERIVED. THE GIVEN ROWS OF THIS SEAT. 18 by the template 'for every input the law returns true; each argument reads behind the call as it read before'; 0 by the template 'total and deterministic' (their statements: YtbdnbchleoahgaaTotals.lean).
  GIVEN WITH THE SEED: the statements are not yours to turn. If you find one false, say at which input.
  Laid BY PROGRAM, IN A SANDBOX (cutbox-rows.mjs): the forced cells as the released guide's own fill.sh prints them over the translation 72444eb5f3203816… (all of the seat's roots in one cut). By AI agents, Wed Nov 11 2026. No macro, syntax, notation, axiom, sorry.
-/
import Derived.Test.YtbdnbchleoahgaaChecked
import GoSem.Claim
import GoSem.ClaimJoined
import GoSem.ClaimMapViews
import Derived.JoinedTies
import Derived.KernelRfl
namespace Go.Proofs.Ytbdnbchleoahgaa
/- THE CELL 'sum', in the pinned program and in every row, IS THE sha256 OF THE DUMP (.gsa) THAT YtbdnbchleoahgaaProg.lean LOADS. Nothing in Lean hashes anything: it is a label: what it is worth is what the hold of that sum in a sandbox is worth. -/
noncomputable def Try.pinned : Pinned := { name := "ytbdnbchleoahgaa", sum := "72444eb5f3203816280fe259dd941d414715e96b842583183358306e779ef7af", checked := Try.checked }
namespace Rows
def none {H : Type} : Left H := { results := [], args := [] }

/-- 'laws.FnCheapest': WHATEVER THE INPUT: true; the input reads as it did. -/
def fnCheapestSpec : ChangeSpec := { name := "fnCheapest", fn := fun _ => fun
  | [d] => { results := [.lit (.bool true)], args := [d] }
  | _ => none }
def fnCheapestRow : OpenClaim := { program := "ytbdnbchleoahgaa", sum := "72444eb5f3203816280fe259dd941d414715e96b842583183358306e779ef7af", func := "loop.example/g03014/laws.FnCheapest", spec := "fnCheapest", unfollowed := true, recurses := true, apart := false }
def FnCheapestSaid : Prop := fnCheapestRow.holds Try.pinned (OpenSpec.ofChange fnCheapestSpec)

/-- ITS FALSE NEIGHBOUR: 'it returns false'. Refute it at one input. -/
def fnCheapestWrong : ChangeSpec := { name := "fnCheapest", fn := fun _ => fun
  | [d] => { results := [.lit (.bool false)], args := [d] }
  | _ => none }
def FnCheapestWrongFalsely : Prop := fnCheapestRow.holds Try.pinned (OpenSpec.ofChange fnCheapestWrong)

/-- 'laws.FnWalk': WHATEVER THE INPUT: true; the input reads as it did. -/
def fnWalkSpec : ChangeSpec := { name := "fnWalk", fn := fun _ => fun
  | [d] => { results := [.lit (.bool true)], args := [d] }
  | _ => none }
def fnWalkRow : OpenClaim := { program := "ytbdnbchleoahgaa", sum := "72444eb5f3203816280fe259dd941d414715e96b842583183358306e779ef7af", func := "loop.example/g03014/laws.FnWalk", spec := "fnWalk", inPlace := ["maps.clone"], recurses := true, apart := false }
def FnWalkSaid : Prop := fnWalkRow.holds Try.pinned (OpenSpec.ofChange fnWalkSpec)

/-- ITS FALSE NEIGHBOUR: 'it returns false'. Refute it at one input. -/
def fnWalkWrong : ChangeSpec := { name := "fnWalk", fn := fun _ => fun
  | [d] => { results := [.lit (.bool false)], args := [d] }
  | _ => none }
def FnWalkWrongFalsely : Prop := fnWalkRow.holds Try.pinned (OpenSpec.ofChange fnWalkWrong)

/-- 'laws.FnLater': WHATEVER THE INPUT: true; the input reads as it did. -/
def fnLaterSpec : ChangeSpec := { name := "fnLater", fn := fun _ => fun
  | [d] => { results := [.lit (.bool true)], args := [d] }
  | _ => none }
def fnLaterRow : OpenClaim := { program := "ytbdnbchleoahgaa", sum := "72444eb5f3203816280fe259dd941d414715e96b842583183358306e779ef7af", func := "loop.example/g03014/laws.FnLater", spec := "fnLater", inPlace := ["maps.clone"], recurses := true, apart := false }
def FnLaterSaid : Prop := fnLaterRow.holds Try.pinned (OpenSpec.ofChange fnLaterSpec)

/-- ITS FALSE NEIGHBOUR: 'it returns false'. Refute it at one input. -/
def fnLaterWrong : ChangeSpec := { name := "fnLater", fn := fun _ => fun
  | [d] => { results := [.lit (.bool false)], args := [d] }
  | _ => none }
def FnLaterWrongFalsely : Prop := fnLaterRow.holds Try.pinned (OpenSpec.ofChange fnLaterWrong)

/-- 'laws.FnLatest': WHATEVER THE INPUT: true; the input reads as it did. -/
def fnLatestSpec : ChangeSpec := { name := "fnLatest", fn := fun _ => fun
  | [d] => { results := [.lit (.bool true)], args := [d] }
  | _ => none }
def fnLatestRow : OpenClaim := { program := "ytbdnbchleoahgaa", sum := "72444eb5f3203816280fe259dd941d414715e96b842583183358306e779ef7af", func := "loop.example/g03014/laws.FnLatest", spec := "fnLatest", inPlace := ["maps.clone"], recurses := true, apart := false }
def FnLatestSaid : Prop := fnLatestRow.holds Try.pinned (OpenSpec.ofChange fnLatestSpec)

/-- ITS FALSE NEIGHBOUR: 'it returns false'. Refute it at one input. -/
def fnLatestWrong : ChangeSpec := { name := "fnLatest", fn := fun _ => fun
  | [d] => { results := [.lit (.bool false)], args := [d] }
  | _ => none }
def FnLatestWrongFalsely : Prop := fnLatestRow.holds Try.pinned (OpenSpec.ofChange fnLatestWrong)

/-- 'laws.FnReached': WHATEVER THE INPUT: true; the input reads as it did. -/
def fnReachedSpec : ChangeSpec := { name := "fnReached", fn := fun _ => fun
  | [d] => { results := [.lit (.bool true)], args := [d] }
  | _ => none }
def fnReachedRow : OpenClaim := { program := "ytbdnbchleoahgaa", sum := "72444eb5f3203816280fe259dd941d414715e96b842583183358306e779ef7af", func := "loop.example/g03014/laws.FnReached", spec := "fnReached", inPlace := ["maps.clone"], recurses := true, apart := false }
def FnReachedSaid : Prop := fnReachedRow.holds Try.pinned (OpenSpec.ofChange fnReachedSpec)

/-- ITS FALSE NEIGHBOUR: 'it returns false'. Refute it at one input. -/
def fnReachedWrong : ChangeSpec := { name := "fnReached", fn := fun _ => fun
  | [d] => { results := [.lit (.bool false)], args := [d] }
  | _ => none }
def FnReachedWrongFalsely : Prop := fnReachedRow.holds Try.pinned (OpenSpec.ofChange fnReachedWrong)

/-- 'laws.FnChoices': WHATEVER THE INPUT: true; the input reads as it did. -/
def fnChoicesSpec : ChangeSpec := { name := "fnChoices", fn := fun _ => fun
  | [d] => { results := [.lit (.bool true)], args := [d] }
  | _ => none }
def fnChoicesRow : OpenClaim := { program := "ytbdnbchleoahgaa", sum := "72444eb5f3203816280fe259dd941d414715e96b842583183358306e779ef7af", func := "loop.example/g03014/laws.FnChoices", spec := "fnChoices", inPlace := ["maps.clone"], recurses := true, apart := false }
def FnChoicesSaid : Prop := fnChoicesRow.holds Try.pinned (OpenSpec.ofChange fnChoicesSpec)

/-- ITS FALSE NEIGHBOUR: 'it returns false'. Refute it at one input. -/
def fnChoicesWrong : ChangeSpec := { name := "fnChoices", fn := fun _ => fun
  | [d] => { results := [.lit (.bool false)], args := [d] }
  | _ => none }
def FnChoicesWrongFalsely : Prop := fnChoicesRow.holds Try.pinned (OpenSpec.ofChange fnChoicesWrong)

/-- 'laws.FnOver': WHATEVER THE INPUT: true; the input reads as it did. -/
def fnOverSpec : ChangeSpec := { name := "fnOver", fn := fun _ => fun
  | [d] => { results := [.lit (.bool true)], args := [d] }
  | _ => none }
def fnOverRow : OpenClaim := { program := "ytbdnbchleoahgaa", sum := "72444eb5f3203816280fe259dd941d414715e96b842583183358306e779ef7af", func := "loop.example/g03014/laws.FnOver", spec := "fnOver", inPlace := ["maps.clone"], recurses := true, apart := false }
def FnOverSaid : Prop := fnOverRow.holds Try.pinned (OpenSpec.ofChange fnOverSpec)

/-- ITS FALSE NEIGHBOUR: 'it returns false'. Refute it at one input. -/
def fnOverWrong : ChangeSpec := { name := "fnOver", fn := fun _ => fun
  | [d] => { results := [.lit (.bool false)], args := [d] }
  | _ => none }
def FnOverWrongFalsely : Prop := fnOverRow.holds Try.pinned (OpenSpec.ofChange fnOverWrong)

/-- 'laws.FnMoreLegs': WHATEVER THE INPUT: true; the input reads as it did. -/
def fnMoreLegsSpec : ChangeSpec := { name := "fnMoreLegs", fn := fun _ => fun
  | [d] => { results := [.lit (.bool true)], args := [d] }
  | _ => none }
def fnMoreLegsRow : OpenClaim := { program := "ytbdnbchleoahgaa", sum := "72444eb5f3203816280fe259dd941d414715e96b842583183358306e779ef7af", func := "loop.example/g03014/laws.FnMoreLegs", spec := "fnMoreLegs", inPlace := ["maps.clone"], recurses := true, apart := false }
def FnMoreLegsSaid : Prop := fnMoreLegsRow.holds Try.pinned (OpenSpec.ofChange fnMoreLegsSpec)

/-- ITS FALSE NEIGHBOUR: 'it returns false'. Refute it at one input. -/
def fnMoreLegsWrong : ChangeSpec := { name := "fnMoreLegs", fn := fun _ => fun
  | [d] => { results := [.lit (.bool false)], args := [d] }
  | _ => none }
def FnMoreLegsWrongFalsely : Prop := fnMoreLegsRow.holds Try.pinned (OpenSpec.ofChange fnMoreLegsWrong)

/-- 'laws.FnPromise': WHATEVER THE INPUT: true; the input reads as it did. -/
def fnPromiseSpec : ChangeSpec := { name := "fnPromise", fn := fun _ => fun
  | [d] => { results := [.lit (.bool true)], args := [d] }
  | _ => none }
def fnPromiseRow : OpenClaim := { program := "ytbdnbchleoahgaa", sum := "72444eb5f3203816280fe259dd941d414715e96b842583183358306e779ef7af", func := "loop.example/g03014/laws.FnPromise", spec := "fnPromise", inPlace := ["maps.clone"], recurses := true, apart := false }
def FnPromiseSaid : Prop := fnPromiseRow.holds Try.pinned (OpenSpec.ofChange fnPromiseSpec)

/-- ITS FALSE NEIGHBOUR: 'it returns false'. Refute it at one input. -/
def fnPromiseWrong : ChangeSpec := { name := "fnPromise", fn := fun _ => fun
  | [d] => { results := [.lit (.bool false)], args := [d] }
  | _ => none }
def FnPromiseWrongFalsely : Prop := fnPromiseRow.holds Try.pinned (OpenSpec.ofChange fnPromiseWrong)

/-- 'laws.FnExactTripsFrom': WHATEVER THE INPUT: true; the input reads as it did. -/
def fnExactTripsFromSpec : ChangeSpec := { name := "fnExactTripsFrom", fn := fun _ => fun
  | [d1, d2, d3, d4] => { results := [.lit (.bool true)], args := [d1, d2, d3, d4] }
  | _ => none }
def fnExactTripsFromRow : OpenClaim := { program := "ytbdnbchleoahgaa", sum := "72444eb5f3203816280fe259dd941d414715e96b842583183358306e779ef7af", func := "loop.example/g03014/laws.FnExactTripsFrom", spec := "fnExactTripsFrom", unfollowed := true, recurses := true, apart := false }
def FnExactTripsFromSaid : Prop := fnExactTripsFromRow.holds Try.pinned (OpenSpec.ofChange fnExactTripsFromSpec)

/-- ITS FALSE NEIGHBOUR: 'it returns false'. Refute it at one input. -/
def fnExactTripsFromWrong : ChangeSpec := { name := "fnExactTripsFrom", fn := fun _ => fun
  | [d1, d2, d3, d4] => { results := [.lit (.bool false)], args := [d1, d2, d3, d4] }
  | _ => none }
def FnExactTripsFromWrongFalsely : Prop := fnExactTripsFromRow.holds Try.pinned (OpenSpec.ofChange fnExactTripsFromWrong)

/-- 'laws.FnExactMax': WHATEVER THE INPUT: true; the input reads as it did. -/
def fnExactMaxSpec : ChangeSpec := { name := "fnExactMax", fn := fun _ => fun
  | [d1, d2] => { results := [.lit (.bool true)], args := [d1, d2] }
  | _ => none }
def fnExactMaxRow : OpenClaim := { program := "ytbdnbchleoahgaa", sum := "72444eb5f3203816280fe259dd941d414715e96b842583183358306e779ef7af", func := "loop.example/g03014/laws.FnExactMax", spec := "fnExactMax", apart := false }
def FnExactMaxSaid : Prop := fnExactMaxRow.holds Try.pinned (OpenSpec.ofChange fnExactMaxSpec)

/-- ITS FALSE NEIGHBOUR: 'it returns false'. Refute it at one input. -/
def fnExactMaxWrong : ChangeSpec := { name := "fnExactMax", fn := fun _ => fun
  | [d1, d2] => { results := [.lit (.bool false)], args := [d1, d2] }
  | _ => none }
def FnExactMaxWrongFalsely : Prop := fnExactMaxRow.holds Try.pinned (OpenSpec.ofChange fnExactMaxWrong)

/-- 'laws.FnExactBestArrivals': WHATEVER THE INPUT: true; the input reads as it did. -/
def fnExactBestArrivalsSpec : ChangeSpec := { name := "fnExactBestArrivals", fn := fun _ => fun
  | [d1, d2, d3, d4] => { results := [.lit (.bool true)], args := [d1, d2, d3, d4] }
  | _ => none }
def fnExactBestArrivalsRow : OpenClaim := { program := "ytbdnbchleoahgaa", sum := "72444eb5f3203816280fe259dd941d414715e96b842583183358306e779ef7af", func := "loop.example/g03014/laws.FnExactBestArrivals", spec := "fnExactBestArrivals", inPlace := ["maps.clone"], recurses := true, apart := false }
def FnExactBestArrivalsSaid : Prop := fnExactBestArrivalsRow.holds Try.pinned (OpenSpec.ofChange fnExactBestArrivalsSpec)

/-- ITS FALSE NEIGHBOUR: 'it returns false'. Refute it at one input. -/
def fnExactBestArrivalsWrong : ChangeSpec := { name := "fnExactBestArrivals", fn := fun _ => fun
  | [d1, d2, d3, d4] => { results := [.lit (.bool false)], args := [d1, d2, d3, d4] }
  | _ => none }
def FnExactBestArrivalsWrongFalsely : Prop := fnExactBestArrivalsRow.holds Try.pinned (OpenSpec.ofChange fnExactBestArrivalsWrong)

/-- 'laws.FnExactEarliestAt': WHATEVER THE INPUT: true; the input reads as it did. -/
def fnExactEarliestAtSpec : ChangeSpec := { name := "fnExactEarliestAt", fn := fun _ => fun
  | [d1, d2, d3, d4] => { results := [.lit (.bool true)], args := [d1, d2, d3, d4] }
  | _ => none }
def fnExactEarliestAtRow : OpenClaim := { program := "ytbdnbchleoahgaa", sum := "72444eb5f3203816280fe259dd941d414715e96b842583183358306e779ef7af", func := "loop.example/g03014/laws.FnExactEarliestAt", spec := "fnExactEarliestAt", inPlace := ["maps.clone"], recurses := true, apart := false }
def FnExactEarliestAtSaid : Prop := fnExactEarliestAtRow.holds Try.pinned (OpenSpec.ofChange fnExactEarliestAtSpec)

/-- ITS FALSE NEIGHBOUR: 'it returns false'. Refute it at one input. -/
def fnExactEarliestAtWrong : ChangeSpec := { name := "fnExactEarliestAt", fn := fun _ => fun
  | [d1, d2, d3, d4] => { results := [.lit (.bool false)], args := [d1, d2, d3, d4] }
  | _ => none }
def FnExactEarliestAtWrongFalsely : Prop := fnExactEarliestAtRow.holds Try.pinned (OpenSpec.ofChange fnExactEarliestAtWrong)

/-- 'laws.FnExactFindWay': WHATEVER THE INPUT: true; the input reads as it did. -/
def fnExactFindWaySpec : ChangeSpec := { name := "fnExactFindWay", fn := fun _ => fun
  | [d1, d2, d3, d4] => { results := [.lit (.bool true)], args := [d1, d2, d3, d4] }
  | _ => none }
def fnExactFindWayRow : OpenClaim := { program := "ytbdnbchleoahgaa", sum := "72444eb5f3203816280fe259dd941d414715e96b842583183358306e779ef7af", func := "loop.example/g03014/laws.FnExactFindWay", spec := "fnExactFindWay", inPlace := ["maps.clone"], recurses := true, apart := false }
def FnExactFindWaySaid : Prop := fnExactFindWayRow.holds Try.pinned (OpenSpec.ofChange fnExactFindWaySpec)

/-- ITS FALSE NEIGHBOUR: 'it returns false'. Refute it at one input. -/
def fnExactFindWayWrong : ChangeSpec := { name := "fnExactFindWay", fn := fun _ => fun
  | [d1, d2, d3, d4] => { results := [.lit (.bool false)], args := [d1, d2, d3, d4] }
  | _ => none }
def FnExactFindWayWrongFalsely : Prop := fnExactFindWayRow.holds Try.pinned (OpenSpec.ofChange fnExactFindWayWrong)

/-- 'laws.FnExactIsWay': WHATEVER THE INPUT: true; the input reads as it did. -/
def fnExactIsWaySpec : ChangeSpec := { name := "fnExactIsWay", fn := fun _ => fun
  | [d1, d2, d3, d4, d5] => { results := [.lit (.bool true)], args := [d1, d2, d3, d4, d5] }
  | _ => none }
def fnExactIsWayRow : OpenClaim := { program := "ytbdnbchleoahgaa", sum := "72444eb5f3203816280fe259dd941d414715e96b842583183358306e779ef7af", func := "loop.example/g03014/laws.FnExactIsWay", spec := "fnExactIsWay", recurses := true, apart := false }
def FnExactIsWaySaid : Prop := fnExactIsWayRow.holds Try.pinned (OpenSpec.ofChange fnExactIsWaySpec)

/-- ITS FALSE NEIGHBOUR: 'it returns false'. Refute it at one input. -/
def fnExactIsWayWrong : ChangeSpec := { name := "fnExactIsWay", fn := fun _ => fun
  | [d1, d2, d3, d4, d5] => { results := [.lit (.bool false)], args := [d1, d2, d3, d4, d5] }
  | _ => none }
def FnExactIsWayWrongFalsely : Prop := fnExactIsWayRow.holds Try.pinned (OpenSpec.ofChange fnExactIsWayWrong)

/-- 'laws.FnExactWayEnds': WHATEVER THE INPUT: true; the input reads as it did. -/
def fnExactWayEndsSpec : ChangeSpec := { name := "fnExactWayEnds", fn := fun _ => fun
  | [d1, d2, d3] => { results := [.lit (.bool true)], args := [d1, d2, d3] }
  | _ => none }
def fnExactWayEndsRow : OpenClaim := { program := "ytbdnbchleoahgaa", sum := "72444eb5f3203816280fe259dd941d414715e96b842583183358306e779ef7af", func := "loop.example/g03014/laws.FnExactWayEnds", spec := "fnExactWayEnds", apart := false }
def FnExactWayEndsSaid : Prop := fnExactWayEndsRow.holds Try.pinned (OpenSpec.ofChange fnExactWayEndsSpec)

/-- ITS FALSE NEIGHBOUR: 'it returns false'. Refute it at one input. -/
def fnExactWayEndsWrong : ChangeSpec := { name := "fnExactWayEnds", fn := fun _ => fun
  | [d1, d2, d3] => { results := [.lit (.bool false)], args := [d1, d2, d3] }
  | _ => none }
def FnExactWayEndsWrongFalsely : Prop := fnExactWayEndsRow.holds Try.pinned (OpenSpec.ofChange fnExactWayEndsWrong)

/-- 'laws.FnExactSlackOf': WHATEVER THE INPUT: true; the input reads as it did. -/
def fnExactSlackOfSpec : ChangeSpec := { name := "fnExactSlackOf", fn := fun _ => fun
  | [d1, d2] => { results := [.lit (.bool true)], args := [d1, d2] }
  | _ => none }
def fnExactSlackOfRow : OpenClaim := { program := "ytbdnbchleoahgaa", sum := "72444eb5f3203816280fe259dd941d414715e96b842583183358306e779ef7af", func := "loop.example/g03014/laws.FnExactSlackOf", spec := "fnExactSlackOf", apart := false }
def FnExactSlackOfSaid : Prop := fnExactSlackOfRow.holds Try.pinned (OpenSpec.ofChange fnExactSlackOfSpec)

/-- ITS FALSE NEIGHBOUR: 'it returns false'. Refute it at one input. -/
def fnExactSlackOfWrong : ChangeSpec := { name := "fnExactSlackOf", fn := fun _ => fun
  | [d1, d2] => { results := [.lit (.bool false)], args := [d1, d2] }
  | _ => none }
def FnExactSlackOfWrongFalsely : Prop := fnExactSlackOfRow.holds Try.pinned (OpenSpec.ofChange fnExactSlackOfWrong)

/-- 'laws.FnExactLatestStarts': WHATEVER THE INPUT: true; the input reads as it did. -/
def fnExactLatestStartsSpec : ChangeSpec := { name := "fnExactLatestStarts", fn := fun _ => fun
  | [d1, d2, d3] => { results := [.lit (.bool true)], args := [d1, d2, d3] }
  | _ => none }
def fnExactLatestStartsRow : OpenClaim := { program := "ytbdnbchleoahgaa", sum := "72444eb5f3203816280fe259dd941d414715e96b842583183358306e779ef7af", func := "loop.example/g03014/laws.FnExactLatestStarts", spec := "fnExactLatestStarts", recurses := true, apart := false }
def FnExactLatestStartsSaid : Prop := fnExactLatestStartsRow.holds Try.pinned (OpenSpec.ofChange fnExactLatestStartsSpec)

/-- ITS FALSE NEIGHBOUR: 'it returns false'. Refute it at one input. -/
def fnExactLatestStartsWrong : ChangeSpec := { name := "fnExactLatestStarts", fn := fun _ => fun
  | [d1, d2, d3] => { results := [.lit (.bool false)], args := [d1, d2, d3] }
  | _ => none }
def FnExactLatestStartsWrongFalsely : Prop := fnExactLatestStartsRow.holds Try.pinned (OpenSpec.ofChange fnExactLatestStartsWrong)

/- THE SECOND FORM. 'bulk': how many values and letters a reading holds, each counted each time it is reached (what is shared counts as often as it is met; a slice's spare places count too). A statement '..UptoSaid' is the law's where the arguments, and the package variables that the reading takes, are together of bulk at most 1048576: NARROWER than '..Said'. Prove '..Said' where nothing that the law and all that it calls make is longer than what came in: it says more and counts as full. Else prove '..UptoSaid'. A law counts once. -/
mutual
def uptoBulk {H : Type} : DataW H → Nat
  | .lit (.string bytes) => bytes.length + 1
  | .lit _ => 1
  | .nil => 1
  | .ptr d => uptoBulk d + 1
  | .slice elems spare => uptoBulkAll elems + uptoBulkAll spare + 1
  | .agg parts => uptoBulkAll parts + 1
  | .iface _ d => uptoBulk d + 1
  | .map entries => uptoBulkEntries entries + 1
  | .held _ => 1
def uptoBulkAll {H : Type} : List (DataW H) → Nat
  | [] => 0
  | d :: r => uptoBulk d + uptoBulkAll r
def uptoBulkEntries {H : Type} : List (Lit × DataW H) → Nat
  | [] => 0
  | x :: r => uptoBulkEntry x + uptoBulkEntries r
def uptoBulkEntry {H : Type} : Lit × DataW H → Nat
  | (.string bytes, d) => bytes.length + uptoBulk d + 1
  | (_, d) => uptoBulk d + 1
 end
def uptoSmall : (H : Type) → List (DataW H) → Bool := fun _ ds => decide (uptoBulkAll ds ≤ 1048576)
def OpenSpec.upto (s : _root_.Go.ChangeSpec) : _root_.Go.OpenSpec := { _root_.Go.OpenSpec.ofChange s with cond := some uptoSmall }

/-- 'laws.FnCheapest', WHERE WHAT IT READS IS OF BULK AT MOST 1048576: true; the input reads as it did. -/
def fnCheapestUptoRow : OpenClaim := { program := "ytbdnbchleoahgaa", sum := "72444eb5f3203816280fe259dd941d414715e96b842583183358306e779ef7af", func := "loop.example/g03014/laws.FnCheapest", spec := "fnCheapest", unfollowed := true, recurses := true, apart := false, narrowed := true }
def FnCheapestUptoSaid : Prop := fnCheapestUptoRow.holds Try.pinned (OpenSpec.upto fnCheapestSpec)

/-- 'laws.FnWalk', WHERE WHAT IT READS IS OF BULK AT MOST 1048576: true; the input reads as it did. -/
def fnWalkUptoRow : OpenClaim := { program := "ytbdnbchleoahgaa", sum := "72444eb5f3203816280fe259dd941d414715e96b842583183358306e779ef7af", func := "loop.example/g03014/laws.FnWalk", spec := "fnWalk", inPlace := ["maps.clone"], recurses := true, apart := false, narrowed := true }
def FnWalkUptoSaid : Prop := fnWalkUptoRow.holds Try.pinned (OpenSpec.upto fnWalkSpec)

/-- 'laws.FnLater', WHERE WHAT IT READS IS OF BULK AT MOST 1048576: true; the input reads as it did. -/
def fnLaterUptoRow : OpenClaim := { program := "ytbdnbchleoahgaa", sum := "72444eb5f3203816280fe259dd941d414715e96b842583183358306e779ef7af", func := "loop.example/g03014/laws.FnLater", spec := "fnLater", inPlace := ["maps.clone"], recurses := true, apart := false, narrowed := true }
def FnLaterUptoSaid : Prop := fnLaterUptoRow.holds Try.pinned (OpenSpec.upto fnLaterSpec)

/-- 'laws.FnLatest', WHERE WHAT IT READS IS OF BULK AT MOST 1048576: true; the input reads as it did. -/
def fnLatestUptoRow : OpenClaim := { program := "ytbdnbchleoahgaa", sum := "72444eb5f3203816280fe259dd941d414715e96b842583183358306e779ef7af", func := "loop.example/g03014/laws.FnLatest", spec := "fnLatest", inPlace := ["maps.clone"], recurses := true, apart := false, narrowed := true }
def FnLatestUptoSaid : Prop := fnLatestUptoRow.holds Try.pinned (OpenSpec.upto fnLatestSpec)

/-- 'laws.FnReached', WHERE WHAT IT READS IS OF BULK AT MOST 1048576: true; the input reads as it did. -/
def fnReachedUptoRow : OpenClaim := { program := "ytbdnbchleoahgaa", sum := "72444eb5f3203816280fe259dd941d414715e96b842583183358306e779ef7af", func := "loop.example/g03014/laws.FnReached", spec := "fnReached", inPlace := ["maps.clone"], recurses := true, apart := false, narrowed := true }
def FnReachedUptoSaid : Prop := fnReachedUptoRow.holds Try.pinned (OpenSpec.upto fnReachedSpec)

/-- 'laws.FnChoices', WHERE WHAT IT READS IS OF BULK AT MOST 1048576: true; the input reads as it did. -/
def fnChoicesUptoRow : OpenClaim := { program := "ytbdnbchleoahgaa", sum := "72444eb5f3203816280fe259dd941d414715e96b842583183358306e779ef7af", func := "loop.example/g03014/laws.FnChoices", spec := "fnChoices", inPlace := ["maps.clone"], recurses := true, apart := false, narrowed := true }
def FnChoicesUptoSaid : Prop := fnChoicesUptoRow.holds Try.pinned (OpenSpec.upto fnChoicesSpec)

/-- 'laws.FnOver', WHERE WHAT IT READS IS OF BULK AT MOST 1048576: true; the input reads as it did. -/
def fnOverUptoRow : OpenClaim := { program := "ytbdnbchleoahgaa", sum := "72444eb5f3203816280fe259dd941d414715e96b842583183358306e779ef7af", func := "loop.example/g03014/laws.FnOver", spec := "fnOver", inPlace := ["maps.clone"], recurses := true, apart := false, narrowed := true }
def FnOverUptoSaid : Prop := fnOverUptoRow.holds Try.pinned (OpenSpec.upto fnOverSpec)

/-- 'laws.FnMoreLegs', WHERE WHAT IT READS IS OF BULK AT MOST 1048576: true; the input reads as it did. -/
def fnMoreLegsUptoRow : OpenClaim := { program := "ytbdnbchleoahgaa", sum := "72444eb5f3203816280fe259dd941d414715e96b842583183358306e779ef7af", func := "loop.example/g03014/laws.FnMoreLegs", spec := "fnMoreLegs", inPlace := ["maps.clone"], recurses := true, apart := false, narrowed := true }
def FnMoreLegsUptoSaid : Prop := fnMoreLegsUptoRow.holds Try.pinned (OpenSpec.upto fnMoreLegsSpec)

/-- 'laws.FnPromise', WHERE WHAT IT READS IS OF BULK AT MOST 1048576: true; the input reads as it did. -/
def fnPromiseUptoRow : OpenClaim := { program := "ytbdnbchleoahgaa", sum := "72444eb5f3203816280fe259dd941d414715e96b842583183358306e779ef7af", func := "loop.example/g03014/laws.FnPromise", spec := "fnPromise", inPlace := ["maps.clone"], recurses := true, apart := false, narrowed := true }
def FnPromiseUptoSaid : Prop := fnPromiseUptoRow.holds Try.pinned (OpenSpec.upto fnPromiseSpec)

/-- 'laws.FnExactTripsFrom', WHERE WHAT IT READS IS OF BULK AT MOST 1048576: true; the input reads as it did. -/
def fnExactTripsFromUptoRow : OpenClaim := { program := "ytbdnbchleoahgaa", sum := "72444eb5f3203816280fe259dd941d414715e96b842583183358306e779ef7af", func := "loop.example/g03014/laws.FnExactTripsFrom", spec := "fnExactTripsFrom", unfollowed := true, recurses := true, apart := false, narrowed := true }
def FnExactTripsFromUptoSaid : Prop := fnExactTripsFromUptoRow.holds Try.pinned (OpenSpec.upto fnExactTripsFromSpec)

/-- 'laws.FnExactMax', WHERE WHAT IT READS IS OF BULK AT MOST 1048576: true; the input reads as it did. -/
def fnExactMaxUptoRow : OpenClaim := { program := "ytbdnbchleoahgaa", sum := "72444eb5f3203816280fe259dd941d414715e96b842583183358306e779ef7af", func := "loop.example/g03014/laws.FnExactMax", spec := "fnExactMax", apart := false, narrowed := true }
def FnExactMaxUptoSaid : Prop := fnExactMaxUptoRow.holds Try.pinned (OpenSpec.upto fnExactMaxSpec)

/-- 'laws.FnExactBestArrivals', WHERE WHAT IT READS IS OF BULK AT MOST 1048576: true; the input reads as it did. -/
def fnExactBestArrivalsUptoRow : OpenClaim := { program := "ytbdnbchleoahgaa", sum := "72444eb5f3203816280fe259dd941d414715e96b842583183358306e779ef7af", func := "loop.example/g03014/laws.FnExactBestArrivals", spec := "fnExactBestArrivals", inPlace := ["maps.clone"], recurses := true, apart := false, narrowed := true }
def FnExactBestArrivalsUptoSaid : Prop := fnExactBestArrivalsUptoRow.holds Try.pinned (OpenSpec.upto fnExactBestArrivalsSpec)

/-- 'laws.FnExactEarliestAt', WHERE WHAT IT READS IS OF BULK AT MOST 1048576: true; the input reads as it did. -/
def fnExactEarliestAtUptoRow : OpenClaim := { program := "ytbdnbchleoahgaa", sum := "72444eb5f3203816280fe259dd941d414715e96b842583183358306e779ef7af", func := "loop.example/g03014/laws.FnExactEarliestAt", spec := "fnExactEarliestAt", inPlace := ["maps.clone"], recurses := true, apart := false, narrowed := true }
def FnExactEarliestAtUptoSaid : Prop := fnExactEarliestAtUptoRow.holds Try.pinned (OpenSpec.upto fnExactEarliestAtSpec)

/-- 'laws.FnExactFindWay', WHERE WHAT IT READS IS OF BULK AT MOST 1048576: true; the input reads as it did. -/
def fnExactFindWayUptoRow : OpenClaim := { program := "ytbdnbchleoahgaa", sum := "72444eb5f3203816280fe259dd941d414715e96b842583183358306e779ef7af", func := "loop.example/g03014/laws.FnExactFindWay", spec := "fnExactFindWay", inPlace := ["maps.clone"], recurses := true, apart := false, narrowed := true }
def FnExactFindWayUptoSaid : Prop := fnExactFindWayUptoRow.holds Try.pinned (OpenSpec.upto fnExactFindWaySpec)

/-- 'laws.FnExactIsWay', WHERE WHAT IT READS IS OF BULK AT MOST 1048576: true; the input reads as it did. -/
def fnExactIsWayUptoRow : OpenClaim := { program := "ytbdnbchleoahgaa", sum := "72444eb5f3203816280fe259dd941d414715e96b842583183358306e779ef7af", func := "loop.example/g03014/laws.FnExactIsWay", spec := "fnExactIsWay", recurses := true, apart := false, narrowed := true }
def FnExactIsWayUptoSaid : Prop := fnExactIsWayUptoRow.holds Try.pinned (OpenSpec.upto fnExactIsWaySpec)

/-- 'laws.FnExactWayEnds', WHERE WHAT IT READS IS OF BULK AT MOST 1048576: true; the input reads as it did. -/
def fnExactWayEndsUptoRow : OpenClaim := { program := "ytbdnbchleoahgaa", sum := "72444eb5f3203816280fe259dd941d414715e96b842583183358306e779ef7af", func := "loop.example/g03014/laws.FnExactWayEnds", spec := "fnExactWayEnds", apart := false, narrowed := true }
def FnExactWayEndsUptoSaid : Prop := fnExactWayEndsUptoRow.holds Try.pinned (OpenSpec.upto fnExactWayEndsSpec)

/-- 'laws.FnExactSlackOf', WHERE WHAT IT READS IS OF BULK AT MOST 1048576: true; the input reads as it did. -/
def fnExactSlackOfUptoRow : OpenClaim := { program := "ytbdnbchleoahgaa", sum := "72444eb5f3203816280fe259dd941d414715e96b842583183358306e779ef7af", func := "loop.example/g03014/laws.FnExactSlackOf", spec := "fnExactSlackOf", apart := false, narrowed := true }
def FnExactSlackOfUptoSaid : Prop := fnExactSlackOfUptoRow.holds Try.pinned (OpenSpec.upto fnExactSlackOfSpec)

/-- 'laws.FnExactLatestStarts', WHERE WHAT IT READS IS OF BULK AT MOST 1048576: true; the input reads as it did. -/
def fnExactLatestStartsUptoRow : OpenClaim := { program := "ytbdnbchleoahgaa", sum := "72444eb5f3203816280fe259dd941d414715e96b842583183358306e779ef7af", func := "loop.example/g03014/laws.FnExactLatestStarts", spec := "fnExactLatestStarts", recurses := true, apart := false, narrowed := true }
def FnExactLatestStartsUptoSaid : Prop := fnExactLatestStartsUptoRow.holds Try.pinned (OpenSpec.upto fnExactLatestStartsSpec)

end Rows
end Go.Proofs.Ytbdnbchleoahgaa
