/-
  No cell of these rows narrows 'for every input' (looked for: loops, veiled, ifaces, maps, wideKeys, modest, calm, conditions, laid).
  DERIVED. THE GIVEN ROWS OF THIS SEAT. 12 by the template 'for every input the law returns true; each argument reads behind the call as it read before'; 0 by the template 'total and deterministic' (their statements: YtichnpjpldkceaaTotals.lean).
  GIVEN WITH THE SEED: the statements are not yours to turn. If you find one false, say at which input.
  Laid BY PROGRAM, IN A SANDBOX (cutbox-rows.mjs): the forced cells as the released guide's own fill.sh prints them over the translation 773339fe4d4e31a0… (all of the seat's roots in one cut). By AI agents, Wed Nov 11 2026. No macro, syntax, notation, axiom, sorry.
-/
import Derived.Test.YtichnpjpldkceaaChecked
import GoSem.Claim
import GoSem.ClaimJoined
import GoSem.ClaimMapViews
import Derived.JoinedTies
import Derived.KernelRfl
namespace Go.Proofs.Ytichnpjpldkceaa
/- THE CELL 'sum', in the pinned program and in every row, IS THE sha256 OF THE DUMP (.gsa) THAT YtichnpjpldkceaaProg.lean LOADS. Nothing in Lean hashes anything: it is a label: what it is worth is what the hold of that sum in a sandbox is worth. -/
noncomputable def Try.pinned : Pinned := { name := "ytichnpjpldkceaa", sum := "773339fe4d4e31a09f6b2efa88e4990c26961c24df70320310ae279aaf296454", checked := Try.checked }
namespace Rows
def none {H : Type} : Left H := { results := [], args := [] }

/-- 'laws.FnFits': WHATEVER THE INPUT: true; the input reads as it did. -/
def fnFitsSpec : ChangeSpec := { name := "fnFits", fn := fun _ => fun
  | [d] => { results := [.lit (.bool true)], args := [d] }
  | _ => none }
def fnFitsRow : OpenClaim := { program := "ytichnpjpldkceaa", sum := "773339fe4d4e31a09f6b2efa88e4990c26961c24df70320310ae279aaf296454", func := "loop.example/g03014/laws.FnFits", spec := "fnFits", unfollowed := true, recurses := true, apart := false }
def FnFitsSaid : Prop := fnFitsRow.holds Try.pinned (OpenSpec.ofChange fnFitsSpec)

/-- ITS FALSE NEIGHBOUR: 'it returns false'. Refute it at one input. -/
def fnFitsWrong : ChangeSpec := { name := "fnFits", fn := fun _ => fun
  | [d] => { results := [.lit (.bool false)], args := [d] }
  | _ => none }
def FnFitsWrongFalsely : Prop := fnFitsRow.holds Try.pinned (OpenSpec.ofChange fnFitsWrong)

/-- 'laws.FnCheapest': WHATEVER THE INPUT: true; the input reads as it did. -/
def fnCheapestSpec : ChangeSpec := { name := "fnCheapest", fn := fun _ => fun
  | [d] => { results := [.lit (.bool true)], args := [d] }
  | _ => none }
def fnCheapestRow : OpenClaim := { program := "ytichnpjpldkceaa", sum := "773339fe4d4e31a09f6b2efa88e4990c26961c24df70320310ae279aaf296454", func := "loop.example/g03014/laws.FnCheapest", spec := "fnCheapest", unfollowed := true, recurses := true, apart := false }
def FnCheapestSaid : Prop := fnCheapestRow.holds Try.pinned (OpenSpec.ofChange fnCheapestSpec)

/-- ITS FALSE NEIGHBOUR: 'it returns false'. Refute it at one input. -/
def fnCheapestWrong : ChangeSpec := { name := "fnCheapest", fn := fun _ => fun
  | [d] => { results := [.lit (.bool false)], args := [d] }
  | _ => none }
def FnCheapestWrongFalsely : Prop := fnCheapestRow.holds Try.pinned (OpenSpec.ofChange fnCheapestWrong)

/-- 'laws.FnExactIsLeg': WHATEVER THE INPUT: true; the input reads as it did. -/
def fnExactIsLegSpec : ChangeSpec := { name := "fnExactIsLeg", fn := fun _ => fun
  | [d] => { results := [.lit (.bool true)], args := [d] }
  | _ => none }
def fnExactIsLegRow : OpenClaim := { program := "ytichnpjpldkceaa", sum := "773339fe4d4e31a09f6b2efa88e4990c26961c24df70320310ae279aaf296454", func := "loop.example/g03014/laws.FnExactIsLeg", spec := "fnExactIsLeg", apart := false }
def FnExactIsLegSaid : Prop := fnExactIsLegRow.holds Try.pinned (OpenSpec.ofChange fnExactIsLegSpec)

/-- ITS FALSE NEIGHBOUR: 'it returns false'. Refute it at one input. -/
def fnExactIsLegWrong : ChangeSpec := { name := "fnExactIsLeg", fn := fun _ => fun
  | [d] => { results := [.lit (.bool false)], args := [d] }
  | _ => none }
def FnExactIsLegWrongFalsely : Prop := fnExactIsLegRow.holds Try.pinned (OpenSpec.ofChange fnExactIsLegWrong)

/-- 'laws.FnExactIsNetwork': WHATEVER THE INPUT: true; the input reads as it did. -/
def fnExactIsNetworkSpec : ChangeSpec := { name := "fnExactIsNetwork", fn := fun _ => fun
  | [d] => { results := [.lit (.bool true)], args := [d] }
  | _ => none }
def fnExactIsNetworkRow : OpenClaim := { program := "ytichnpjpldkceaa", sum := "773339fe4d4e31a09f6b2efa88e4990c26961c24df70320310ae279aaf296454", func := "loop.example/g03014/laws.FnExactIsNetwork", spec := "fnExactIsNetwork", apart := false }
def FnExactIsNetworkSaid : Prop := fnExactIsNetworkRow.holds Try.pinned (OpenSpec.ofChange fnExactIsNetworkSpec)

/-- ITS FALSE NEIGHBOUR: 'it returns false'. Refute it at one input. -/
def fnExactIsNetworkWrong : ChangeSpec := { name := "fnExactIsNetwork", fn := fun _ => fun
  | [d] => { results := [.lit (.bool false)], args := [d] }
  | _ => none }
def FnExactIsNetworkWrongFalsely : Prop := fnExactIsNetworkRow.holds Try.pinned (OpenSpec.ofChange fnExactIsNetworkWrong)

/-- 'laws.FnExactPlacesOf': WHATEVER THE INPUT: true; the input reads as it did. -/
def fnExactPlacesOfSpec : ChangeSpec := { name := "fnExactPlacesOf", fn := fun _ => fun
  | [d] => { results := [.lit (.bool true)], args := [d] }
  | _ => none }
def fnExactPlacesOfRow : OpenClaim := { program := "ytichnpjpldkceaa", sum := "773339fe4d4e31a09f6b2efa88e4990c26961c24df70320310ae279aaf296454", func := "loop.example/g03014/laws.FnExactPlacesOf", spec := "fnExactPlacesOf", recurses := true, apart := false }
def FnExactPlacesOfSaid : Prop := fnExactPlacesOfRow.holds Try.pinned (OpenSpec.ofChange fnExactPlacesOfSpec)

/-- ITS FALSE NEIGHBOUR: 'it returns false'. Refute it at one input. -/
def fnExactPlacesOfWrong : ChangeSpec := { name := "fnExactPlacesOf", fn := fun _ => fun
  | [d] => { results := [.lit (.bool false)], args := [d] }
  | _ => none }
def FnExactPlacesOfWrongFalsely : Prop := fnExactPlacesOfRow.holds Try.pinned (OpenSpec.ofChange fnExactPlacesOfWrong)

/-- 'laws.FnExactRunsOn': WHATEVER THE INPUT: true; the input reads as it did. -/
def fnExactRunsOnSpec : ChangeSpec := { name := "fnExactRunsOn", fn := fun _ => fun
  | [d1, d2, d3] => { results := [.lit (.bool true)], args := [d1, d2, d3] }
  | _ => none }
def fnExactRunsOnRow : OpenClaim := { program := "ytichnpjpldkceaa", sum := "773339fe4d4e31a09f6b2efa88e4990c26961c24df70320310ae279aaf296454", func := "loop.example/g03014/laws.FnExactRunsOn", spec := "fnExactRunsOn", apart := false }
def FnExactRunsOnSaid : Prop := fnExactRunsOnRow.holds Try.pinned (OpenSpec.ofChange fnExactRunsOnSpec)

/-- ITS FALSE NEIGHBOUR: 'it returns false'. Refute it at one input. -/
def fnExactRunsOnWrong : ChangeSpec := { name := "fnExactRunsOn", fn := fun _ => fun
  | [d1, d2, d3] => { results := [.lit (.bool false)], args := [d1, d2, d3] }
  | _ => none }
def FnExactRunsOnWrongFalsely : Prop := fnExactRunsOnRow.holds Try.pinned (OpenSpec.ofChange fnExactRunsOnWrong)

/-- 'laws.FnExactIsTrip': WHATEVER THE INPUT: true; the input reads as it did. -/
def fnExactIsTripSpec : ChangeSpec := { name := "fnExactIsTrip", fn := fun _ => fun
  | [d1, d2] => { results := [.lit (.bool true)], args := [d1, d2] }
  | _ => none }
def fnExactIsTripRow : OpenClaim := { program := "ytichnpjpldkceaa", sum := "773339fe4d4e31a09f6b2efa88e4990c26961c24df70320310ae279aaf296454", func := "loop.example/g03014/laws.FnExactIsTrip", spec := "fnExactIsTrip", apart := false }
def FnExactIsTripSaid : Prop := fnExactIsTripRow.holds Try.pinned (OpenSpec.ofChange fnExactIsTripSpec)

/-- ITS FALSE NEIGHBOUR: 'it returns false'. Refute it at one input. -/
def fnExactIsTripWrong : ChangeSpec := { name := "fnExactIsTrip", fn := fun _ => fun
  | [d1, d2] => { results := [.lit (.bool false)], args := [d1, d2] }
  | _ => none }
def FnExactIsTripWrongFalsely : Prop := fnExactIsTripRow.holds Try.pinned (OpenSpec.ofChange fnExactIsTripWrong)

/-- 'laws.FnExactStartsAt': WHATEVER THE INPUT: true; the input reads as it did. -/
def fnExactStartsAtSpec : ChangeSpec := { name := "fnExactStartsAt", fn := fun _ => fun
  | [d1, d2] => { results := [.lit (.bool true)], args := [d1, d2] }
  | _ => none }
def fnExactStartsAtRow : OpenClaim := { program := "ytichnpjpldkceaa", sum := "773339fe4d4e31a09f6b2efa88e4990c26961c24df70320310ae279aaf296454", func := "loop.example/g03014/laws.FnExactStartsAt", spec := "fnExactStartsAt", apart := false }
def FnExactStartsAtSaid : Prop := fnExactStartsAtRow.holds Try.pinned (OpenSpec.ofChange fnExactStartsAtSpec)

/-- ITS FALSE NEIGHBOUR: 'it returns false'. Refute it at one input. -/
def fnExactStartsAtWrong : ChangeSpec := { name := "fnExactStartsAt", fn := fun _ => fun
  | [d1, d2] => { results := [.lit (.bool false)], args := [d1, d2] }
  | _ => none }
def FnExactStartsAtWrongFalsely : Prop := fnExactStartsAtRow.holds Try.pinned (OpenSpec.ofChange fnExactStartsAtWrong)

/-- 'laws.FnExactEndsAt': WHATEVER THE INPUT: true; the input reads as it did. -/
def fnExactEndsAtSpec : ChangeSpec := { name := "fnExactEndsAt", fn := fun _ => fun
  | [d1, d2] => { results := [.lit (.bool true)], args := [d1, d2] }
  | _ => none }
def fnExactEndsAtRow : OpenClaim := { program := "ytichnpjpldkceaa", sum := "773339fe4d4e31a09f6b2efa88e4990c26961c24df70320310ae279aaf296454", func := "loop.example/g03014/laws.FnExactEndsAt", spec := "fnExactEndsAt", apart := false }
def FnExactEndsAtSaid : Prop := fnExactEndsAtRow.holds Try.pinned (OpenSpec.ofChange fnExactEndsAtSpec)

/-- ITS FALSE NEIGHBOUR: 'it returns false'. Refute it at one input. -/
def fnExactEndsAtWrong : ChangeSpec := { name := "fnExactEndsAt", fn := fun _ => fun
  | [d1, d2] => { results := [.lit (.bool false)], args := [d1, d2] }
  | _ => none }
def FnExactEndsAtWrongFalsely : Prop := fnExactEndsAtRow.holds Try.pinned (OpenSpec.ofChange fnExactEndsAtWrong)

/-- 'laws.FnExactNextTrip': WHATEVER THE INPUT: true; the input reads as it did. -/
def fnExactNextTripSpec : ChangeSpec := { name := "fnExactNextTrip", fn := fun _ => fun
  | [d1, d2, d3] => { results := [.lit (.bool true)], args := [d1, d2, d3] }
  | _ => none }
def fnExactNextTripRow : OpenClaim := { program := "ytichnpjpldkceaa", sum := "773339fe4d4e31a09f6b2efa88e4990c26961c24df70320310ae279aaf296454", func := "loop.example/g03014/laws.FnExactNextTrip", spec := "fnExactNextTrip", apart := false }
def FnExactNextTripSaid : Prop := fnExactNextTripRow.holds Try.pinned (OpenSpec.ofChange fnExactNextTripSpec)

/-- ITS FALSE NEIGHBOUR: 'it returns false'. Refute it at one input. -/
def fnExactNextTripWrong : ChangeSpec := { name := "fnExactNextTrip", fn := fun _ => fun
  | [d1, d2, d3] => { results := [.lit (.bool false)], args := [d1, d2, d3] }
  | _ => none }
def FnExactNextTripWrongFalsely : Prop := fnExactNextTripRow.holds Try.pinned (OpenSpec.ofChange fnExactNextTripWrong)

/-- 'laws.FnExactLastTrip': WHATEVER THE INPUT: true; the input reads as it did. -/
def fnExactLastTripSpec : ChangeSpec := { name := "fnExactLastTrip", fn := fun _ => fun
  | [d1, d2, d3] => { results := [.lit (.bool true)], args := [d1, d2, d3] }
  | _ => none }
def fnExactLastTripRow : OpenClaim := { program := "ytichnpjpldkceaa", sum := "773339fe4d4e31a09f6b2efa88e4990c26961c24df70320310ae279aaf296454", func := "loop.example/g03014/laws.FnExactLastTrip", spec := "fnExactLastTrip", apart := false }
def FnExactLastTripSaid : Prop := fnExactLastTripRow.holds Try.pinned (OpenSpec.ofChange fnExactLastTripSpec)

/-- ITS FALSE NEIGHBOUR: 'it returns false'. Refute it at one input. -/
def fnExactLastTripWrong : ChangeSpec := { name := "fnExactLastTrip", fn := fun _ => fun
  | [d1, d2, d3] => { results := [.lit (.bool false)], args := [d1, d2, d3] }
  | _ => none }
def FnExactLastTripWrongFalsely : Prop := fnExactLastTripRow.holds Try.pinned (OpenSpec.ofChange fnExactLastTripWrong)

/-- 'laws.FnExactTripsFrom': WHATEVER THE INPUT: true; the input reads as it did. -/
def fnExactTripsFromSpec : ChangeSpec := { name := "fnExactTripsFrom", fn := fun _ => fun
  | [d1, d2, d3, d4] => { results := [.lit (.bool true)], args := [d1, d2, d3, d4] }
  | _ => none }
def fnExactTripsFromRow : OpenClaim := { program := "ytichnpjpldkceaa", sum := "773339fe4d4e31a09f6b2efa88e4990c26961c24df70320310ae279aaf296454", func := "loop.example/g03014/laws.FnExactTripsFrom", spec := "fnExactTripsFrom", unfollowed := true, recurses := true, apart := false }
def FnExactTripsFromSaid : Prop := fnExactTripsFromRow.holds Try.pinned (OpenSpec.ofChange fnExactTripsFromSpec)

/-- ITS FALSE NEIGHBOUR: 'it returns false'. Refute it at one input. -/
def fnExactTripsFromWrong : ChangeSpec := { name := "fnExactTripsFrom", fn := fun _ => fun
  | [d1, d2, d3, d4] => { results := [.lit (.bool false)], args := [d1, d2, d3, d4] }
  | _ => none }
def FnExactTripsFromWrongFalsely : Prop := fnExactTripsFromRow.holds Try.pinned (OpenSpec.ofChange fnExactTripsFromWrong)

/- THE SECOND FORM. 'bulk': how many values and letters a reading holds, each counted each time it is reached (what is shared counts as often as it is met; a slice's spare places count too). A statement '..UptoSaid' is the law's where the arguments, and the package variables that the reading takes, are together of bulk at most 1048576: NARROWER than '..Said'. Prove '..Said' where nothing that the law and all that it calls make is longer than what came in: it says more and counts as full. Else prove '..UptoSaid'. A law counts once. -/
mutual
def uptoBulk {H : Type} : DataW H → Nat
  | .lit (.string bytes) => bytes.length + 1
  | .lit _ => 1
  | .nil => 1
  | .ptr d => uptoBulk d + 1
  | .slice elems spare => uptoBulkAll elems + uptoBulkAll spare + 1
  | .agg parts => uptoBulkAll parts + 1
  | .iface _ d => uptoBulk d + 1
  | .map entries => uptoBulkEntries entries + 1
  | .held _ => 1
def uptoBulkAll {H : Type} : List (DataW H) → Nat
  | [] => 0
  | d :: r => uptoBulk d + uptoBulkAll r
def uptoBulkEntries {H : Type} : List (Lit × DataW H) → Nat
  | [] => 0
  | x :: r => uptoBulkEntry x + uptoBulkEntries r
def uptoBulkEntry {H : Type} : Lit × DataW H → Nat
  | (.string bytes, d) => bytes.length + uptoBulk d + 1
  | (_, d) => uptoBulk d + 1
 end
def uptoSmall : (H : Type) → List (DataW H) → Bool := fun _ ds => decide (uptoBulkAll ds ≤ 1048576)
def OpenSpec.upto (s : _root_.Go.ChangeSpec) : _root_.Go.OpenSpec := { _root_.Go.OpenSpec.ofChange s with cond := some uptoSmall }

/-- 'laws.FnFits', WHERE WHAT IT READS IS OF BULK AT MOST 1048576: true; the input reads as it did. -/
def fnFitsUptoRow : OpenClaim := { program := "ytichnpjpldkceaa", sum := "773339fe4d4e31a09f6b2efa88e4990c26961c24df70320310ae279aaf296454", func := "loop.example/g03014/laws.FnFits", spec := "fnFits", unfollowed := true, recurses := true, apart := false, narrowed := true }
def FnFitsUptoSaid : Prop := fnFitsUptoRow.holds Try.pinned (OpenSpec.upto fnFitsSpec)

/-- 'laws.FnCheapest', WHERE WHAT IT READS IS OF BULK AT MOST 1048576: true; the input reads as it did. -/
def fnCheapestUptoRow : OpenClaim := { program := "ytichnpjpldkceaa", sum := "773339fe4d4e31a09f6b2efa88e4990c26961c24df70320310ae279aaf296454", func := "loop.example/g03014/laws.FnCheapest", spec := "fnCheapest", unfollowed := true, recurses := true, apart := false, narrowed := true }
def FnCheapestUptoSaid : Prop := fnCheapestUptoRow.holds Try.pinned (OpenSpec.upto fnCheapestSpec)

/-- 'laws.FnExactIsLeg', WHERE WHAT IT READS IS OF BULK AT MOST 1048576: true; the input reads as it did. -/
def fnExactIsLegUptoRow : OpenClaim := { program := "ytichnpjpldkceaa", sum := "773339fe4d4e31a09f6b2efa88e4990c26961c24df70320310ae279aaf296454", func := "loop.example/g03014/laws.FnExactIsLeg", spec := "fnExactIsLeg", apart := false, narrowed := true }
def FnExactIsLegUptoSaid : Prop := fnExactIsLegUptoRow.holds Try.pinned (OpenSpec.upto fnExactIsLegSpec)

/-- 'laws.FnExactIsNetwork', WHERE WHAT IT READS IS OF BULK AT MOST 1048576: true; the input reads as it did. -/
def fnExactIsNetworkUptoRow : OpenClaim := { program := "ytichnpjpldkceaa", sum := "773339fe4d4e31a09f6b2efa88e4990c26961c24df70320310ae279aaf296454", func := "loop.example/g03014/laws.FnExactIsNetwork", spec := "fnExactIsNetwork", apart := false, narrowed := true }
def FnExactIsNetworkUptoSaid : Prop := fnExactIsNetworkUptoRow.holds Try.pinned (OpenSpec.upto fnExactIsNetworkSpec)

/-- 'laws.FnExactPlacesOf', WHERE WHAT IT READS IS OF BULK AT MOST 1048576: true; the input reads as it did. -/
def fnExactPlacesOfUptoRow : OpenClaim := { program := "ytichnpjpldkceaa", sum := "773339fe4d4e31a09f6b2efa88e4990c26961c24df70320310ae279aaf296454", func := "loop.example/g03014/laws.FnExactPlacesOf", spec := "fnExactPlacesOf", recurses := true, apart := false, narrowed := true }
def FnExactPlacesOfUptoSaid : Prop := fnExactPlacesOfUptoRow.holds Try.pinned (OpenSpec.upto fnExactPlacesOfSpec)

/-- 'laws.FnExactRunsOn', WHERE WHAT IT READS IS OF BULK AT MOST 1048576: true; the input reads as it did. -/
def fnExactRunsOnUptoRow : OpenClaim := { program := "ytichnpjpldkceaa", sum := "773339fe4d4e31a09f6b2efa88e4990c26961c24df70320310ae279aaf296454", func := "loop.example/g03014/laws.FnExactRunsOn", spec := "fnExactRunsOn", apart := false, narrowed := true }
def FnExactRunsOnUptoSaid : Prop := fnExactRunsOnUptoRow.holds Try.pinned (OpenSpec.upto fnExactRunsOnSpec)

/-- 'laws.FnExactIsTrip', WHERE WHAT IT READS IS OF BULK AT MOST 1048576: true; the input reads as it did. -/
def fnExactIsTripUptoRow : OpenClaim := { program := "ytichnpjpldkceaa", sum := "773339fe4d4e31a09f6b2efa88e4990c26961c24df70320310ae279aaf296454", func := "loop.example/g03014/laws.FnExactIsTrip", spec := "fnExactIsTrip", apart := false, narrowed := true }
def FnExactIsTripUptoSaid : Prop := fnExactIsTripUptoRow.holds Try.pinned (OpenSpec.upto fnExactIsTripSpec)

/-- 'laws.FnExactStartsAt', WHERE WHAT IT READS IS OF BULK AT MOST 1048576: true; the input reads as it did. -/
def fnExactStartsAtUptoRow : OpenClaim := { program := "ytichnpjpldkceaa", sum := "773339fe4d4e31a09f6b2efa88e4990c26961c24df70320310ae279aaf296454", func := "loop.example/g03014/laws.FnExactStartsAt", spec := "fnExactStartsAt", apart := false, narrowed := true }
def FnExactStartsAtUptoSaid : Prop := fnExactStartsAtUptoRow.holds Try.pinned (OpenSpec.upto fnExactStartsAtSpec)

/-- 'laws.FnExactEndsAt', WHERE WHAT IT READS IS OF BULK AT MOST 1048576: true; the input reads as it did. -/
def fnExactEndsAtUptoRow : OpenClaim := { program := "ytichnpjpldkceaa", sum := "773339fe4d4e31a09f6b2efa88e4990c26961c24df70320310ae279aaf296454", func := "loop.example/g03014/laws.FnExactEndsAt", spec := "fnExactEndsAt", apart := false, narrowed := true }
def FnExactEndsAtUptoSaid : Prop := fnExactEndsAtUptoRow.holds Try.pinned (OpenSpec.upto fnExactEndsAtSpec)

/-- 'laws.FnExactNextTrip', WHERE WHAT IT READS IS OF BULK AT MOST 1048576: true; the input reads as it did. -/
def fnExactNextTripUptoRow : OpenClaim := { program := "ytichnpjpldkceaa", sum := "773339fe4d4e31a09f6b2efa88e4990c26961c24df70320310ae279aaf296454", func := "loop.example/g03014/laws.FnExactNextTrip", spec := "fnExactNextTrip", apart := false, narrowed := true }
def FnExactNextTripUptoSaid : Prop := fnExactNextTripUptoRow.holds Try.pinned (OpenSpec.upto fnExactNextTripSpec)

/-- 'laws.FnExactLastTrip', WHERE WHAT IT READS IS OF BULK AT MOST 1048576: true; the input reads as it did. -/
def fnExactLastTripUptoRow : OpenClaim := { program := "ytichnpjpldkceaa", sum := "773339fe4d4e31a09f6b2efa88e4990c26961c24df70320310ae279aaf296454", func := "loop.example/g03014/laws.FnExactLastTrip", spec := "fnExactLastTrip", apart := false, narrowed := true }
def FnExactLastTripUptoSaid : Prop := fnExactLastTripUptoRow.holds Try.pinned (OpenSpec.upto fnExactLastTripSpec)

/-- 'laws.FnExactTripsFrom', WHERE WHAT IT READS IS OF BULK AT MOST 1048576: true; the input reads as it did. -/
def fnExactTripsFromUptoRow : OpenClaim := { program := "ytichnpjpldkceaa", sum := "773339fe4d4e31a09f6b2efa88e4990c26961c24df70320310ae279aaf296454", func := "loop.example/g03014/laws.FnExactTripsFrom", spec := "fnExactTripsFrom", unfollowed := true, recurses := true, apart := false, narrowed := true }
def FnExactTripsFromUptoSaid : Prop := fnExactTripsFromUptoRow.holds Try.pinned (OpenSpec.upto fnExactTripsFromSpec)

end Rows
end Go.Proofs.Ytichnpjpldkceaa
