/-
  No cell of these rows narrows 'for every input' (looked for: loops, veiled, ifaces, maps, wideKeys, modest, calm, conditions, laid).
  DERIVED. THE GIVEN ROWS OF THIS SEAT. 14 by the template 'for every input the law returns true; each argument reads behind the call as it read before'; 0 by the template 'total and deterministic' (their statements: YtodphbnbljpegaaTotals.lean).
  GIVEN WITH THE SEED: the statements are not yours to turn. If you find one false, say at which input.
  Laid BY PROGRAM, IN A SANDBOX (cutbox-rows.mjs): the forced cells as the released guide's own fill.sh prints them over the translation 494d2adf0f074400… (all of the seat's roots in one cut). By AI agents, Wed Nov 11 2026. No macro, syntax, notation, axiom, sorry.
-/
import Derived.Test.YtodphbnbljpegaaChecked
import GoSem.Claim
import GoSem.ClaimJoined
import GoSem.ClaimMapViews
import Derived.JoinedTies
import Derived.KernelRfl
namespace Go.Proofs.Ytodphbnbljpegaa
/- THE CELL 'sum', in the pinned program and in every row, IS THE sha256 OF THE DUMP (.gsa) THAT YtodphbnbljpegaaProg.lean LOADS. Nothing in Lean hashes anything: it is a label: what it is worth is what the hold of that sum in a sandbox is worth. -/
noncomputable def Try.pinned : Pinned := { name := "ytodphbnbljpegaa", sum := "494d2adf0f0744001addfefb2c943e22e794b783b09d8078539d42c6b45705a6", checked := Try.checked }
namespace Rows
def none {H : Type} : Left H := { results := [], args := [] }

/-- 'laws.FnDropped': WHATEVER THE INPUT: true; the input reads as it did. -/
def fnDroppedSpec : ChangeSpec := { name := "fnDropped", fn := fun _ => fun
  | [d] => { results := [.lit (.bool true)], args := [d] }
  | _ => none }
def fnDroppedRow : OpenClaim := { program := "ytodphbnbljpegaa", sum := "494d2adf0f0744001addfefb2c943e22e794b783b09d8078539d42c6b45705a6", func := "loop.example/g03014/laws.FnDropped", spec := "fnDropped", inPlace := ["slices.overlaps[loop.example/g03014/impl.Booking]"], unfollowed := true, recurses := true, plainKeys := false, apart := false }
def FnDroppedSaid : Prop := fnDroppedRow.holds Try.pinned (OpenSpec.ofChange fnDroppedSpec)

/-- ITS FALSE NEIGHBOUR: 'it returns false'. Refute it at one input. -/
def fnDroppedWrong : ChangeSpec := { name := "fnDropped", fn := fun _ => fun
  | [d] => { results := [.lit (.bool false)], args := [d] }
  | _ => none }
def FnDroppedWrongFalsely : Prop := fnDroppedRow.holds Try.pinned (OpenSpec.ofChange fnDroppedWrong)

/-- 'laws.FnRide': WHATEVER THE INPUT: true; the input reads as it did. -/
def fnRideSpec : ChangeSpec := { name := "fnRide", fn := fun _ => fun
  | [d] => { results := [.lit (.bool true)], args := [d] }
  | _ => none }
def fnRideRow : OpenClaim := { program := "ytodphbnbljpegaa", sum := "494d2adf0f0744001addfefb2c943e22e794b783b09d8078539d42c6b45705a6", func := "loop.example/g03014/laws.FnRide", spec := "fnRide", plainKeys := false, apart := false }
def FnRideSaid : Prop := fnRideRow.holds Try.pinned (OpenSpec.ofChange fnRideSpec)

/-- ITS FALSE NEIGHBOUR: 'it returns false'. Refute it at one input. -/
def fnRideWrong : ChangeSpec := { name := "fnRide", fn := fun _ => fun
  | [d] => { results := [.lit (.bool false)], args := [d] }
  | _ => none }
def FnRideWrongFalsely : Prop := fnRideRow.holds Try.pinned (OpenSpec.ofChange fnRideWrong)

/-- 'laws.FnExactLoadOf': WHATEVER THE INPUT: true; the input reads as it did. -/
def fnExactLoadOfSpec : ChangeSpec := { name := "fnExactLoadOf", fn := fun _ => fun
  | [d1, d2] => { results := [.lit (.bool true)], args := [d1, d2] }
  | _ => none }
def fnExactLoadOfRow : OpenClaim := { program := "ytodphbnbljpegaa", sum := "494d2adf0f0744001addfefb2c943e22e794b783b09d8078539d42c6b45705a6", func := "loop.example/g03014/laws.FnExactLoadOf", spec := "fnExactLoadOf", plainKeys := false, apart := false }
def FnExactLoadOfSaid : Prop := fnExactLoadOfRow.holds Try.pinned (OpenSpec.ofChange fnExactLoadOfSpec)

/-- ITS FALSE NEIGHBOUR: 'it returns false'. Refute it at one input. -/
def fnExactLoadOfWrong : ChangeSpec := { name := "fnExactLoadOf", fn := fun _ => fun
  | [d1, d2] => { results := [.lit (.bool false)], args := [d1, d2] }
  | _ => none }
def FnExactLoadOfWrongFalsely : Prop := fnExactLoadOfRow.holds Try.pinned (OpenSpec.ofChange fnExactLoadOfWrong)

/-- 'laws.FnExactAreBookings': WHATEVER THE INPUT: true; the input reads as it did. -/
def fnExactAreBookingsSpec : ChangeSpec := { name := "fnExactAreBookings", fn := fun _ => fun
  | [d1, d2] => { results := [.lit (.bool true)], args := [d1, d2] }
  | _ => none }
def fnExactAreBookingsRow : OpenClaim := { program := "ytodphbnbljpegaa", sum := "494d2adf0f0744001addfefb2c943e22e794b783b09d8078539d42c6b45705a6", func := "loop.example/g03014/laws.FnExactAreBookings", spec := "fnExactAreBookings", plainKeys := false, apart := false }
def FnExactAreBookingsSaid : Prop := fnExactAreBookingsRow.holds Try.pinned (OpenSpec.ofChange fnExactAreBookingsSpec)

/-- ITS FALSE NEIGHBOUR: 'it returns false'. Refute it at one input. -/
def fnExactAreBookingsWrong : ChangeSpec := { name := "fnExactAreBookings", fn := fun _ => fun
  | [d1, d2] => { results := [.lit (.bool false)], args := [d1, d2] }
  | _ => none }
def FnExactAreBookingsWrongFalsely : Prop := fnExactAreBookingsRow.holds Try.pinned (OpenSpec.ofChange fnExactAreBookingsWrong)

/-- 'laws.FnExactSpareOn': WHATEVER THE INPUT: true; the input reads as it did. -/
def fnExactSpareOnSpec : ChangeSpec := { name := "fnExactSpareOn", fn := fun _ => fun
  | [d1, d2, d3] => { results := [.lit (.bool true)], args := [d1, d2, d3] }
  | _ => none }
def fnExactSpareOnRow : OpenClaim := { program := "ytodphbnbljpegaa", sum := "494d2adf0f0744001addfefb2c943e22e794b783b09d8078539d42c6b45705a6", func := "loop.example/g03014/laws.FnExactSpareOn", spec := "fnExactSpareOn", plainKeys := false, apart := false }
def FnExactSpareOnSaid : Prop := fnExactSpareOnRow.holds Try.pinned (OpenSpec.ofChange fnExactSpareOnSpec)

/-- ITS FALSE NEIGHBOUR: 'it returns false'. Refute it at one input. -/
def fnExactSpareOnWrong : ChangeSpec := { name := "fnExactSpareOn", fn := fun _ => fun
  | [d1, d2, d3] => { results := [.lit (.bool false)], args := [d1, d2, d3] }
  | _ => none }
def FnExactSpareOnWrongFalsely : Prop := fnExactSpareOnRow.holds Try.pinned (OpenSpec.ofChange fnExactSpareOnWrong)

/-- 'laws.FnExactFillOf': WHATEVER THE INPUT: true; the input reads as it did. -/
def fnExactFillOfSpec : ChangeSpec := { name := "fnExactFillOf", fn := fun _ => fun
  | [d1, d2, d3] => { results := [.lit (.bool true)], args := [d1, d2, d3] }
  | _ => none }
def fnExactFillOfRow : OpenClaim := { program := "ytodphbnbljpegaa", sum := "494d2adf0f0744001addfefb2c943e22e794b783b09d8078539d42c6b45705a6", func := "loop.example/g03014/laws.FnExactFillOf", spec := "fnExactFillOf", plainKeys := false, apart := false }
def FnExactFillOfSaid : Prop := fnExactFillOfRow.holds Try.pinned (OpenSpec.ofChange fnExactFillOfSpec)

/-- ITS FALSE NEIGHBOUR: 'it returns false'. Refute it at one input. -/
def fnExactFillOfWrong : ChangeSpec := { name := "fnExactFillOf", fn := fun _ => fun
  | [d1, d2, d3] => { results := [.lit (.bool false)], args := [d1, d2, d3] }
  | _ => none }
def FnExactFillOfWrongFalsely : Prop := fnExactFillOfRow.holds Try.pinned (OpenSpec.ofChange fnExactFillOfWrong)

/-- 'laws.FnExactWhoRides': WHATEVER THE INPUT: true; the input reads as it did. -/
def fnExactWhoRidesSpec : ChangeSpec := { name := "fnExactWhoRides", fn := fun _ => fun
  | [d1, d2] => { results := [.lit (.bool true)], args := [d1, d2] }
  | _ => none }
def fnExactWhoRidesRow : OpenClaim := { program := "ytodphbnbljpegaa", sum := "494d2adf0f0744001addfefb2c943e22e794b783b09d8078539d42c6b45705a6", func := "loop.example/g03014/laws.FnExactWhoRides", spec := "fnExactWhoRides", plainKeys := false, apart := false }
def FnExactWhoRidesSaid : Prop := fnExactWhoRidesRow.holds Try.pinned (OpenSpec.ofChange fnExactWhoRidesSpec)

/-- ITS FALSE NEIGHBOUR: 'it returns false'. Refute it at one input. -/
def fnExactWhoRidesWrong : ChangeSpec := { name := "fnExactWhoRides", fn := fun _ => fun
  | [d1, d2] => { results := [.lit (.bool false)], args := [d1, d2] }
  | _ => none }
def FnExactWhoRidesWrongFalsely : Prop := fnExactWhoRidesRow.holds Try.pinned (OpenSpec.ofChange fnExactWhoRidesWrong)

/-- 'laws.FnExactTripsOf': WHATEVER THE INPUT: true; the input reads as it did. -/
def fnExactTripsOfSpec : ChangeSpec := { name := "fnExactTripsOf", fn := fun _ => fun
  | [d1, d2] => { results := [.lit (.bool true)], args := [d1, d2] }
  | _ => none }
def fnExactTripsOfRow : OpenClaim := { program := "ytodphbnbljpegaa", sum := "494d2adf0f0744001addfefb2c943e22e794b783b09d8078539d42c6b45705a6", func := "loop.example/g03014/laws.FnExactTripsOf", spec := "fnExactTripsOf", plainKeys := false, apart := false }
def FnExactTripsOfSaid : Prop := fnExactTripsOfRow.holds Try.pinned (OpenSpec.ofChange fnExactTripsOfSpec)

/-- ITS FALSE NEIGHBOUR: 'it returns false'. Refute it at one input. -/
def fnExactTripsOfWrong : ChangeSpec := { name := "fnExactTripsOf", fn := fun _ => fun
  | [d1, d2] => { results := [.lit (.bool false)], args := [d1, d2] }
  | _ => none }
def FnExactTripsOfWrongFalsely : Prop := fnExactTripsOfRow.holds Try.pinned (OpenSpec.ofChange fnExactTripsOfWrong)

/-- 'laws.FnExactBookWay': WHATEVER THE INPUT: true; the input reads as it did. -/
def fnExactBookWaySpec : ChangeSpec := { name := "fnExactBookWay", fn := fun _ => fun
  | [d1, d2, d3, d4, d5] => { results := [.lit (.bool true)], args := [d1, d2, d3, d4, d5] }
  | _ => none }
def fnExactBookWayRow : OpenClaim := { program := "ytodphbnbljpegaa", sum := "494d2adf0f0744001addfefb2c943e22e794b783b09d8078539d42c6b45705a6", func := "loop.example/g03014/laws.FnExactBookWay", spec := "fnExactBookWay", inPlace := ["slices.overlaps[loop.example/g03014/impl.Booking]"], unfollowed := true, recurses := true, plainKeys := false, apart := false }
def FnExactBookWaySaid : Prop := fnExactBookWayRow.holds Try.pinned (OpenSpec.ofChange fnExactBookWaySpec)

/-- ITS FALSE NEIGHBOUR: 'it returns false'. Refute it at one input. -/
def fnExactBookWayWrong : ChangeSpec := { name := "fnExactBookWay", fn := fun _ => fun
  | [d1, d2, d3, d4, d5] => { results := [.lit (.bool false)], args := [d1, d2, d3, d4, d5] }
  | _ => none }
def FnExactBookWayWrongFalsely : Prop := fnExactBookWayRow.holds Try.pinned (OpenSpec.ofChange fnExactBookWayWrong)

/-- 'laws.FnExactDropFrom': WHATEVER THE INPUT: true; the input reads as it did. -/
def fnExactDropFromSpec : ChangeSpec := { name := "fnExactDropFrom", fn := fun _ => fun
  | [d1, d2, d3, d4] => { results := [.lit (.bool true)], args := [d1, d2, d3, d4] }
  | _ => none }
def fnExactDropFromRow : OpenClaim := { program := "ytodphbnbljpegaa", sum := "494d2adf0f0744001addfefb2c943e22e794b783b09d8078539d42c6b45705a6", func := "loop.example/g03014/laws.FnExactDropFrom", spec := "fnExactDropFrom", unfollowed := true, recurses := true, plainKeys := false, apart := false }
def FnExactDropFromSaid : Prop := fnExactDropFromRow.holds Try.pinned (OpenSpec.ofChange fnExactDropFromSpec)

/-- ITS FALSE NEIGHBOUR: 'it returns false'. Refute it at one input. -/
def fnExactDropFromWrong : ChangeSpec := { name := "fnExactDropFrom", fn := fun _ => fun
  | [d1, d2, d3, d4] => { results := [.lit (.bool false)], args := [d1, d2, d3, d4] }
  | _ => none }
def FnExactDropFromWrongFalsely : Prop := fnExactDropFromRow.holds Try.pinned (OpenSpec.ofChange fnExactDropFromWrong)

/-- 'laws.FnExactRideAt': WHATEVER THE INPUT: true; the input reads as it did. -/
def fnExactRideAtSpec : ChangeSpec := { name := "fnExactRideAt", fn := fun _ => fun
  | [d1, d2, d3, d4] => { results := [.lit (.bool true)], args := [d1, d2, d3, d4] }
  | _ => none }
def fnExactRideAtRow : OpenClaim := { program := "ytodphbnbljpegaa", sum := "494d2adf0f0744001addfefb2c943e22e794b783b09d8078539d42c6b45705a6", func := "loop.example/g03014/laws.FnExactRideAt", spec := "fnExactRideAt", plainKeys := false, apart := false }
def FnExactRideAtSaid : Prop := fnExactRideAtRow.holds Try.pinned (OpenSpec.ofChange fnExactRideAtSpec)

/-- ITS FALSE NEIGHBOUR: 'it returns false'. Refute it at one input. -/
def fnExactRideAtWrong : ChangeSpec := { name := "fnExactRideAt", fn := fun _ => fun
  | [d1, d2, d3, d4] => { results := [.lit (.bool false)], args := [d1, d2, d3, d4] }
  | _ => none }
def FnExactRideAtWrongFalsely : Prop := fnExactRideAtRow.holds Try.pinned (OpenSpec.ofChange fnExactRideAtWrong)

/-- 'laws.FnExactNextFree': WHATEVER THE INPUT: true; the input reads as it did. -/
def fnExactNextFreeSpec : ChangeSpec := { name := "fnExactNextFree", fn := fun _ => fun
  | [d1, d2, d3, d4, d5, d6] => { results := [.lit (.bool true)], args := [d1, d2, d3, d4, d5, d6] }
  | _ => none }
def fnExactNextFreeRow : OpenClaim := { program := "ytodphbnbljpegaa", sum := "494d2adf0f0744001addfefb2c943e22e794b783b09d8078539d42c6b45705a6", func := "loop.example/g03014/laws.FnExactNextFree", spec := "fnExactNextFree", plainKeys := false, apart := false }
def FnExactNextFreeSaid : Prop := fnExactNextFreeRow.holds Try.pinned (OpenSpec.ofChange fnExactNextFreeSpec)

/-- ITS FALSE NEIGHBOUR: 'it returns false'. Refute it at one input. -/
def fnExactNextFreeWrong : ChangeSpec := { name := "fnExactNextFree", fn := fun _ => fun
  | [d1, d2, d3, d4, d5, d6] => { results := [.lit (.bool false)], args := [d1, d2, d3, d4, d5, d6] }
  | _ => none }
def FnExactNextFreeWrongFalsely : Prop := fnExactNextFreeRow.holds Try.pinned (OpenSpec.ofChange fnExactNextFreeWrong)

/-- 'laws.FnExactFindWay': WHATEVER THE INPUT: true; the input reads as it did. -/
def fnExactFindWaySpec : ChangeSpec := { name := "fnExactFindWay", fn := fun _ => fun
  | [d1, d2, d3, d4] => { results := [.lit (.bool true)], args := [d1, d2, d3, d4] }
  | _ => none }
def fnExactFindWayRow : OpenClaim := { program := "ytodphbnbljpegaa", sum := "494d2adf0f0744001addfefb2c943e22e794b783b09d8078539d42c6b45705a6", func := "loop.example/g03014/laws.FnExactFindWay", spec := "fnExactFindWay", inPlace := ["maps.clone"], recurses := true, plainKeys := false, apart := false }
def FnExactFindWaySaid : Prop := fnExactFindWayRow.holds Try.pinned (OpenSpec.ofChange fnExactFindWaySpec)

/-- ITS FALSE NEIGHBOUR: 'it returns false'. Refute it at one input. -/
def fnExactFindWayWrong : ChangeSpec := { name := "fnExactFindWay", fn := fun _ => fun
  | [d1, d2, d3, d4] => { results := [.lit (.bool false)], args := [d1, d2, d3, d4] }
  | _ => none }
def FnExactFindWayWrongFalsely : Prop := fnExactFindWayRow.holds Try.pinned (OpenSpec.ofChange fnExactFindWayWrong)

/-- 'laws.FnExactTripsFrom': WHATEVER THE INPUT: true; the input reads as it did. -/
def fnExactTripsFromSpec : ChangeSpec := { name := "fnExactTripsFrom", fn := fun _ => fun
  | [d1, d2, d3, d4] => { results := [.lit (.bool true)], args := [d1, d2, d3, d4] }
  | _ => none }
def fnExactTripsFromRow : OpenClaim := { program := "ytodphbnbljpegaa", sum := "494d2adf0f0744001addfefb2c943e22e794b783b09d8078539d42c6b45705a6", func := "loop.example/g03014/laws.FnExactTripsFrom", spec := "fnExactTripsFrom", unfollowed := true, recurses := true, plainKeys := false, apart := false }
def FnExactTripsFromSaid : Prop := fnExactTripsFromRow.holds Try.pinned (OpenSpec.ofChange fnExactTripsFromSpec)

/-- ITS FALSE NEIGHBOUR: 'it returns false'. Refute it at one input. -/
def fnExactTripsFromWrong : ChangeSpec := { name := "fnExactTripsFrom", fn := fun _ => fun
  | [d1, d2, d3, d4] => { results := [.lit (.bool false)], args := [d1, d2, d3, d4] }
  | _ => none }
def FnExactTripsFromWrongFalsely : Prop := fnExactTripsFromRow.holds Try.pinned (OpenSpec.ofChange fnExactTripsFromWrong)

/- THE SECOND FORM. 'bulk': how many values and letters a reading holds, each counted each time it is reached (what is shared counts as often as it is met; a slice's spare places count too). A statement '..UptoSaid' is the law's where the arguments, and the package variables that the reading takes, are together of bulk at most 1048576: NARROWER than '..Said'. Prove '..Said' where nothing that the law and all that it calls make is longer than what came in: it says more and counts as full. Else prove '..UptoSaid'. A law counts once. -/
mutual
def uptoBulk {H : Type} : DataW H → Nat
  | .lit (.string bytes) => bytes.length + 1
  | .lit _ => 1
  | .nil => 1
  | .ptr d => uptoBulk d + 1
  | .slice elems spare => uptoBulkAll elems + uptoBulkAll spare + 1
  | .agg parts => uptoBulkAll parts + 1
  | .iface _ d => uptoBulk d + 1
  | .map entries => uptoBulkEntries entries + 1
  | .held _ => 1
def uptoBulkAll {H : Type} : List (DataW H) → Nat
  | [] => 0
  | d :: r => uptoBulk d + uptoBulkAll r
def uptoBulkEntries {H : Type} : List (Lit × DataW H) → Nat
  | [] => 0
  | x :: r => uptoBulkEntry x + uptoBulkEntries r
def uptoBulkEntry {H : Type} : Lit × DataW H → Nat
  | (.string bytes, d) => bytes.length + uptoBulk d + 1
  | (_, d) => uptoBulk d + 1
 end
def uptoSmall : (H : Type) → List (DataW H) → Bool := fun _ ds => decide (uptoBulkAll ds ≤ 1048576)
def OpenSpec.upto (s : _root_.Go.ChangeSpec) : _root_.Go.OpenSpec := { _root_.Go.OpenSpec.ofChange s with cond := some uptoSmall }

/-- 'laws.FnDropped', WHERE WHAT IT READS IS OF BULK AT MOST 1048576: true; the input reads as it did. -/
def fnDroppedUptoRow : OpenClaim := { program := "ytodphbnbljpegaa", sum := "494d2adf0f0744001addfefb2c943e22e794b783b09d8078539d42c6b45705a6", func := "loop.example/g03014/laws.FnDropped", spec := "fnDropped", inPlace := ["slices.overlaps[loop.example/g03014/impl.Booking]"], unfollowed := true, recurses := true, plainKeys := false, apart := false, narrowed := true }
def FnDroppedUptoSaid : Prop := fnDroppedUptoRow.holds Try.pinned (OpenSpec.upto fnDroppedSpec)

/-- 'laws.FnRide', WHERE WHAT IT READS IS OF BULK AT MOST 1048576: true; the input reads as it did. -/
def fnRideUptoRow : OpenClaim := { program := "ytodphbnbljpegaa", sum := "494d2adf0f0744001addfefb2c943e22e794b783b09d8078539d42c6b45705a6", func := "loop.example/g03014/laws.FnRide", spec := "fnRide", plainKeys := false, apart := false, narrowed := true }
def FnRideUptoSaid : Prop := fnRideUptoRow.holds Try.pinned (OpenSpec.upto fnRideSpec)

/-- 'laws.FnExactLoadOf', WHERE WHAT IT READS IS OF BULK AT MOST 1048576: true; the input reads as it did. -/
def fnExactLoadOfUptoRow : OpenClaim := { program := "ytodphbnbljpegaa", sum := "494d2adf0f0744001addfefb2c943e22e794b783b09d8078539d42c6b45705a6", func := "loop.example/g03014/laws.FnExactLoadOf", spec := "fnExactLoadOf", plainKeys := false, apart := false, narrowed := true }
def FnExactLoadOfUptoSaid : Prop := fnExactLoadOfUptoRow.holds Try.pinned (OpenSpec.upto fnExactLoadOfSpec)

/-- 'laws.FnExactAreBookings', WHERE WHAT IT READS IS OF BULK AT MOST 1048576: true; the input reads as it did. -/
def fnExactAreBookingsUptoRow : OpenClaim := { program := "ytodphbnbljpegaa", sum := "494d2adf0f0744001addfefb2c943e22e794b783b09d8078539d42c6b45705a6", func := "loop.example/g03014/laws.FnExactAreBookings", spec := "fnExactAreBookings", plainKeys := false, apart := false, narrowed := true }
def FnExactAreBookingsUptoSaid : Prop := fnExactAreBookingsUptoRow.holds Try.pinned (OpenSpec.upto fnExactAreBookingsSpec)

/-- 'laws.FnExactSpareOn', WHERE WHAT IT READS IS OF BULK AT MOST 1048576: true; the input reads as it did. -/
def fnExactSpareOnUptoRow : OpenClaim := { program := "ytodphbnbljpegaa", sum := "494d2adf0f0744001addfefb2c943e22e794b783b09d8078539d42c6b45705a6", func := "loop.example/g03014/laws.FnExactSpareOn", spec := "fnExactSpareOn", plainKeys := false, apart := false, narrowed := true }
def FnExactSpareOnUptoSaid : Prop := fnExactSpareOnUptoRow.holds Try.pinned (OpenSpec.upto fnExactSpareOnSpec)

/-- 'laws.FnExactFillOf', WHERE WHAT IT READS IS OF BULK AT MOST 1048576: true; the input reads as it did. -/
def fnExactFillOfUptoRow : OpenClaim := { program := "ytodphbnbljpegaa", sum := "494d2adf0f0744001addfefb2c943e22e794b783b09d8078539d42c6b45705a6", func := "loop.example/g03014/laws.FnExactFillOf", spec := "fnExactFillOf", plainKeys := false, apart := false, narrowed := true }
def FnExactFillOfUptoSaid : Prop := fnExactFillOfUptoRow.holds Try.pinned (OpenSpec.upto fnExactFillOfSpec)

/-- 'laws.FnExactWhoRides', WHERE WHAT IT READS IS OF BULK AT MOST 1048576: true; the input reads as it did. -/
def fnExactWhoRidesUptoRow : OpenClaim := { program := "ytodphbnbljpegaa", sum := "494d2adf0f0744001addfefb2c943e22e794b783b09d8078539d42c6b45705a6", func := "loop.example/g03014/laws.FnExactWhoRides", spec := "fnExactWhoRides", plainKeys := false, apart := false, narrowed := true }
def FnExactWhoRidesUptoSaid : Prop := fnExactWhoRidesUptoRow.holds Try.pinned (OpenSpec.upto fnExactWhoRidesSpec)

/-- 'laws.FnExactTripsOf', WHERE WHAT IT READS IS OF BULK AT MOST 1048576: true; the input reads as it did. -/
def fnExactTripsOfUptoRow : OpenClaim := { program := "ytodphbnbljpegaa", sum := "494d2adf0f0744001addfefb2c943e22e794b783b09d8078539d42c6b45705a6", func := "loop.example/g03014/laws.FnExactTripsOf", spec := "fnExactTripsOf", plainKeys := false, apart := false, narrowed := true }
def FnExactTripsOfUptoSaid : Prop := fnExactTripsOfUptoRow.holds Try.pinned (OpenSpec.upto fnExactTripsOfSpec)

/-- 'laws.FnExactBookWay', WHERE WHAT IT READS IS OF BULK AT MOST 1048576: true; the input reads as it did. -/
def fnExactBookWayUptoRow : OpenClaim := { program := "ytodphbnbljpegaa", sum := "494d2adf0f0744001addfefb2c943e22e794b783b09d8078539d42c6b45705a6", func := "loop.example/g03014/laws.FnExactBookWay", spec := "fnExactBookWay", inPlace := ["slices.overlaps[loop.example/g03014/impl.Booking]"], unfollowed := true, recurses := true, plainKeys := false, apart := false, narrowed := true }
def FnExactBookWayUptoSaid : Prop := fnExactBookWayUptoRow.holds Try.pinned (OpenSpec.upto fnExactBookWaySpec)

/-- 'laws.FnExactDropFrom', WHERE WHAT IT READS IS OF BULK AT MOST 1048576: true; the input reads as it did. -/
def fnExactDropFromUptoRow : OpenClaim := { program := "ytodphbnbljpegaa", sum := "494d2adf0f0744001addfefb2c943e22e794b783b09d8078539d42c6b45705a6", func := "loop.example/g03014/laws.FnExactDropFrom", spec := "fnExactDropFrom", unfollowed := true, recurses := true, plainKeys := false, apart := false, narrowed := true }
def FnExactDropFromUptoSaid : Prop := fnExactDropFromUptoRow.holds Try.pinned (OpenSpec.upto fnExactDropFromSpec)

/-- 'laws.FnExactRideAt', WHERE WHAT IT READS IS OF BULK AT MOST 1048576: true; the input reads as it did. -/
def fnExactRideAtUptoRow : OpenClaim := { program := "ytodphbnbljpegaa", sum := "494d2adf0f0744001addfefb2c943e22e794b783b09d8078539d42c6b45705a6", func := "loop.example/g03014/laws.FnExactRideAt", spec := "fnExactRideAt", plainKeys := false, apart := false, narrowed := true }
def FnExactRideAtUptoSaid : Prop := fnExactRideAtUptoRow.holds Try.pinned (OpenSpec.upto fnExactRideAtSpec)

/-- 'laws.FnExactNextFree', WHERE WHAT IT READS IS OF BULK AT MOST 1048576: true; the input reads as it did. -/
def fnExactNextFreeUptoRow : OpenClaim := { program := "ytodphbnbljpegaa", sum := "494d2adf0f0744001addfefb2c943e22e794b783b09d8078539d42c6b45705a6", func := "loop.example/g03014/laws.FnExactNextFree", spec := "fnExactNextFree", plainKeys := false, apart := false, narrowed := true }
def FnExactNextFreeUptoSaid : Prop := fnExactNextFreeUptoRow.holds Try.pinned (OpenSpec.upto fnExactNextFreeSpec)

/-- 'laws.FnExactFindWay', WHERE WHAT IT READS IS OF BULK AT MOST 1048576: true; the input reads as it did. -/
def fnExactFindWayUptoRow : OpenClaim := { program := "ytodphbnbljpegaa", sum := "494d2adf0f0744001addfefb2c943e22e794b783b09d8078539d42c6b45705a6", func := "loop.example/g03014/laws.FnExactFindWay", spec := "fnExactFindWay", inPlace := ["maps.clone"], recurses := true, plainKeys := false, apart := false, narrowed := true }
def FnExactFindWayUptoSaid : Prop := fnExactFindWayUptoRow.holds Try.pinned (OpenSpec.upto fnExactFindWaySpec)

/-- 'laws.FnExactTripsFrom', WHERE WHAT IT READS IS OF BULK AT MOST 1048576: true; the input reads as it did. -/
def fnExactTripsFromUptoRow : OpenClaim := { program := "ytodphbnbljpegaa", sum := "494d2adf0f0744001addfefb2c943e22e794b783b09d8078539d42c6b45705a6", func := "loop.example/g03014/laws.FnExactTripsFrom", spec := "fnExactTripsFrom", unfollowed := true, recurses := true, plainKeys := false, apart := false, narrowed := true }
def FnExactTripsFromUptoSaid : Prop := fnExactTripsFromUptoRow.holds Try.pinned (OpenSpec.upto fnExactTripsFromSpec)

end Rows
end Go.Proofs.Ytodphbnbljpegaa
