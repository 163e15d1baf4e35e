/-
  No cell of these rows narrows 'for every input' (looked for: loops, veiled, ifaces, maps, wideKeys, modest, calm, conditions, laid).
  DERIVED. THE GIVEN ROWS OF THIS SEAT. 14 by the template 'for every input the law returns true; each argument reads behind the call as it read before'; 0 by the template 'total and deterministic' (their statements: YtalciiajhlhecabTotals.lean).
  GIVEN WITH THE SEED: the statements are not yours to turn. If you find one false, say at which input.
  Laid BY PROGRAM, IN A SANDBOX (cutbox-rows.mjs): the forced cells as the released guide's own fill.sh prints them over the translation d9907882f22a6b9b… (all of the seat's roots in one cut). By AI agents, Wed Nov 11 2026. No macro, syntax, notation, axiom, sorry.
-/
import Derived.Test.YtalciiajhlhecabChecked
import GoSem.Claim
import GoSem.ClaimJoined
import GoSem.ClaimMapViews
import Derived.JoinedTies
import Derived.KernelRfl
namespace Go.Proofs.Ytalciiajhlhecab
/- THE CELL 'sum', in the pinned program and in every row, IS THE sha256 OF THE DUMP (.gsa) THAT YtalciiajhlhecabProg.lean LOADS. Nothing in Lean hashes anything: it is a label: what it is worth is what the hold of that sum in a sandbox is worth. -/
noncomputable def Try.pinned : Pinned := { name := "ytalciiajhlhecab", sum := "d9907882f22a6b9ba28cb11410bcbdda4996dcf5e2700cf04d4b3e64795f34da", checked := Try.checked }
namespace Rows
def none {H : Type} : Left H := { results := [], args := [] }

/-- 'laws.FnInside': WHATEVER THE INPUT: true; the input reads as it did. -/
def fnInsideSpec : ChangeSpec := { name := "fnInside", fn := fun _ => fun
  | [d] => { results := [.lit (.bool true)], args := [d] }
  | _ => none }
def fnInsideRow : OpenClaim := { program := "ytalciiajhlhecab", sum := "d9907882f22a6b9ba28cb11410bcbdda4996dcf5e2700cf04d4b3e64795f34da", func := "loop.example/g03014/laws.FnInside", spec := "fnInside", unfollowed := true, recurses := true, apart := false }
def FnInsideSaid : Prop := fnInsideRow.holds Try.pinned (OpenSpec.ofChange fnInsideSpec)

/-- ITS FALSE NEIGHBOUR: 'it returns false'. Refute it at one input. -/
def fnInsideWrong : ChangeSpec := { name := "fnInside", fn := fun _ => fun
  | [d] => { results := [.lit (.bool false)], args := [d] }
  | _ => none }
def FnInsideWrongFalsely : Prop := fnInsideRow.holds Try.pinned (OpenSpec.ofChange fnInsideWrong)

/-- 'laws.FnExactFindThing': WHATEVER THE INPUT: true; the input reads as it did. -/
def fnExactFindThingSpec : ChangeSpec := { name := "fnExactFindThing", fn := fun _ => fun
  | [d1, d2] => { results := [.lit (.bool true)], args := [d1, d2] }
  | _ => none }
def fnExactFindThingRow : OpenClaim := { program := "ytalciiajhlhecab", sum := "d9907882f22a6b9ba28cb11410bcbdda4996dcf5e2700cf04d4b3e64795f34da", func := "loop.example/g03014/laws.FnExactFindThing", spec := "fnExactFindThing", unfollowed := true, recurses := true, apart := false }
def FnExactFindThingSaid : Prop := fnExactFindThingRow.holds Try.pinned (OpenSpec.ofChange fnExactFindThingSpec)

/-- ITS FALSE NEIGHBOUR: 'it returns false'. Refute it at one input. -/
def fnExactFindThingWrong : ChangeSpec := { name := "fnExactFindThing", fn := fun _ => fun
  | [d1, d2] => { results := [.lit (.bool false)], args := [d1, d2] }
  | _ => none }
def FnExactFindThingWrongFalsely : Prop := fnExactFindThingRow.holds Try.pinned (OpenSpec.ofChange fnExactFindThingWrong)

/-- 'laws.FnExactAreThings': WHATEVER THE INPUT: true; the input reads as it did. -/
def fnExactAreThingsSpec : ChangeSpec := { name := "fnExactAreThings", fn := fun _ => fun
  | [d] => { results := [.lit (.bool true)], args := [d] }
  | _ => none }
def fnExactAreThingsRow : OpenClaim := { program := "ytalciiajhlhecab", sum := "d9907882f22a6b9ba28cb11410bcbdda4996dcf5e2700cf04d4b3e64795f34da", func := "loop.example/g03014/laws.FnExactAreThings", spec := "fnExactAreThings", unfollowed := true, recurses := true, apart := false }
def FnExactAreThingsSaid : Prop := fnExactAreThingsRow.holds Try.pinned (OpenSpec.ofChange fnExactAreThingsSpec)

/-- ITS FALSE NEIGHBOUR: 'it returns false'. Refute it at one input. -/
def fnExactAreThingsWrong : ChangeSpec := { name := "fnExactAreThings", fn := fun _ => fun
  | [d] => { results := [.lit (.bool false)], args := [d] }
  | _ => none }
def FnExactAreThingsWrongFalsely : Prop := fnExactAreThingsRow.holds Try.pinned (OpenSpec.ofChange fnExactAreThingsWrong)

/-- 'laws.FnExactInsideOf': WHATEVER THE INPUT: true; the input reads as it did. -/
def fnExactInsideOfSpec : ChangeSpec := { name := "fnExactInsideOf", fn := fun _ => fun
  | [d1, d2] => { results := [.lit (.bool true)], args := [d1, d2] }
  | _ => none }
def fnExactInsideOfRow : OpenClaim := { program := "ytalciiajhlhecab", sum := "d9907882f22a6b9ba28cb11410bcbdda4996dcf5e2700cf04d4b3e64795f34da", func := "loop.example/g03014/laws.FnExactInsideOf", spec := "fnExactInsideOf", unfollowed := true, recurses := true, apart := false }
def FnExactInsideOfSaid : Prop := fnExactInsideOfRow.holds Try.pinned (OpenSpec.ofChange fnExactInsideOfSpec)

/-- ITS FALSE NEIGHBOUR: 'it returns false'. Refute it at one input. -/
def fnExactInsideOfWrong : ChangeSpec := { name := "fnExactInsideOf", fn := fun _ => fun
  | [d1, d2] => { results := [.lit (.bool false)], args := [d1, d2] }
  | _ => none }
def FnExactInsideOfWrongFalsely : Prop := fnExactInsideOfRow.holds Try.pinned (OpenSpec.ofChange fnExactInsideOfWrong)

/-- 'laws.FnExactAllInside': WHATEVER THE INPUT: true; the input reads as it did. -/
def fnExactAllInsideSpec : ChangeSpec := { name := "fnExactAllInside", fn := fun _ => fun
  | [d1, d2] => { results := [.lit (.bool true)], args := [d1, d2] }
  | _ => none }
def fnExactAllInsideRow : OpenClaim := { program := "ytalciiajhlhecab", sum := "d9907882f22a6b9ba28cb11410bcbdda4996dcf5e2700cf04d4b3e64795f34da", func := "loop.example/g03014/laws.FnExactAllInside", spec := "fnExactAllInside", unfollowed := true, recurses := true, apart := false }
def FnExactAllInsideSaid : Prop := fnExactAllInsideRow.holds Try.pinned (OpenSpec.ofChange fnExactAllInsideSpec)

/-- ITS FALSE NEIGHBOUR: 'it returns false'. Refute it at one input. -/
def fnExactAllInsideWrong : ChangeSpec := { name := "fnExactAllInside", fn := fun _ => fun
  | [d1, d2] => { results := [.lit (.bool false)], args := [d1, d2] }
  | _ => none }
def FnExactAllInsideWrongFalsely : Prop := fnExactAllInsideRow.holds Try.pinned (OpenSpec.ofChange fnExactAllInsideWrong)

/-- 'laws.FnExactGrossOf': WHATEVER THE INPUT: true; the input reads as it did. -/
def fnExactGrossOfSpec : ChangeSpec := { name := "fnExactGrossOf", fn := fun _ => fun
  | [d1, d2] => { results := [.lit (.bool true)], args := [d1, d2] }
  | _ => none }
def fnExactGrossOfRow : OpenClaim := { program := "ytalciiajhlhecab", sum := "d9907882f22a6b9ba28cb11410bcbdda4996dcf5e2700cf04d4b3e64795f34da", func := "loop.example/g03014/laws.FnExactGrossOf", spec := "fnExactGrossOf", unfollowed := true, recurses := true, apart := false }
def FnExactGrossOfSaid : Prop := fnExactGrossOfRow.holds Try.pinned (OpenSpec.ofChange fnExactGrossOfSpec)

/-- ITS FALSE NEIGHBOUR: 'it returns false'. Refute it at one input. -/
def fnExactGrossOfWrong : ChangeSpec := { name := "fnExactGrossOf", fn := fun _ => fun
  | [d1, d2] => { results := [.lit (.bool false)], args := [d1, d2] }
  | _ => none }
def FnExactGrossOfWrongFalsely : Prop := fnExactGrossOfRow.holds Try.pinned (OpenSpec.ofChange fnExactGrossOfWrong)

/-- 'laws.FnExactOuterOf': WHATEVER THE INPUT: true; the input reads as it did. -/
def fnExactOuterOfSpec : ChangeSpec := { name := "fnExactOuterOf", fn := fun _ => fun
  | [d1, d2] => { results := [.lit (.bool true)], args := [d1, d2] }
  | _ => none }
def fnExactOuterOfRow : OpenClaim := { program := "ytalciiajhlhecab", sum := "d9907882f22a6b9ba28cb11410bcbdda4996dcf5e2700cf04d4b3e64795f34da", func := "loop.example/g03014/laws.FnExactOuterOf", spec := "fnExactOuterOf", unfollowed := true, recurses := true, apart := false }
def FnExactOuterOfSaid : Prop := fnExactOuterOfRow.holds Try.pinned (OpenSpec.ofChange fnExactOuterOfSpec)

/-- ITS FALSE NEIGHBOUR: 'it returns false'. Refute it at one input. -/
def fnExactOuterOfWrong : ChangeSpec := { name := "fnExactOuterOf", fn := fun _ => fun
  | [d1, d2] => { results := [.lit (.bool false)], args := [d1, d2] }
  | _ => none }
def FnExactOuterOfWrongFalsely : Prop := fnExactOuterOfRow.holds Try.pinned (OpenSpec.ofChange fnExactOuterOfWrong)

/-- 'laws.FnExactDepthOf': WHATEVER THE INPUT: true; the input reads as it did. -/
def fnExactDepthOfSpec : ChangeSpec := { name := "fnExactDepthOf", fn := fun _ => fun
  | [d1, d2] => { results := [.lit (.bool true)], args := [d1, d2] }
  | _ => none }
def fnExactDepthOfRow : OpenClaim := { program := "ytalciiajhlhecab", sum := "d9907882f22a6b9ba28cb11410bcbdda4996dcf5e2700cf04d4b3e64795f34da", func := "loop.example/g03014/laws.FnExactDepthOf", spec := "fnExactDepthOf", unfollowed := true, recurses := true, apart := false }
def FnExactDepthOfSaid : Prop := fnExactDepthOfRow.holds Try.pinned (OpenSpec.ofChange fnExactDepthOfSpec)

/-- ITS FALSE NEIGHBOUR: 'it returns false'. Refute it at one input. -/
def fnExactDepthOfWrong : ChangeSpec := { name := "fnExactDepthOf", fn := fun _ => fun
  | [d1, d2] => { results := [.lit (.bool false)], args := [d1, d2] }
  | _ => none }
def FnExactDepthOfWrongFalsely : Prop := fnExactDepthOfRow.holds Try.pinned (OpenSpec.ofChange fnExactDepthOfWrong)

/-- 'laws.FnExactIsLocked': WHATEVER THE INPUT: true; the input reads as it did. -/
def fnExactIsLockedSpec : ChangeSpec := { name := "fnExactIsLocked", fn := fun _ => fun
  | [d1, d2] => { results := [.lit (.bool true)], args := [d1, d2] }
  | _ => none }
def fnExactIsLockedRow : OpenClaim := { program := "ytalciiajhlhecab", sum := "d9907882f22a6b9ba28cb11410bcbdda4996dcf5e2700cf04d4b3e64795f34da", func := "loop.example/g03014/laws.FnExactIsLocked", spec := "fnExactIsLocked", unfollowed := true, recurses := true, apart := false }
def FnExactIsLockedSaid : Prop := fnExactIsLockedRow.holds Try.pinned (OpenSpec.ofChange fnExactIsLockedSpec)

/-- ITS FALSE NEIGHBOUR: 'it returns false'. Refute it at one input. -/
def fnExactIsLockedWrong : ChangeSpec := { name := "fnExactIsLocked", fn := fun _ => fun
  | [d1, d2] => { results := [.lit (.bool false)], args := [d1, d2] }
  | _ => none }
def FnExactIsLockedWrongFalsely : Prop := fnExactIsLockedRow.holds Try.pinned (OpenSpec.ofChange fnExactIsLockedWrong)

/-- 'laws.FnExactPutInto': WHATEVER THE INPUT: true; the input reads as it did. -/
def fnExactPutIntoSpec : ChangeSpec := { name := "fnExactPutInto", fn := fun _ => fun
  | [d1, d2, d3] => { results := [.lit (.bool true)], args := [d1, d2, d3] }
  | _ => none }
def fnExactPutIntoRow : OpenClaim := { program := "ytalciiajhlhecab", sum := "d9907882f22a6b9ba28cb11410bcbdda4996dcf5e2700cf04d4b3e64795f34da", func := "loop.example/g03014/laws.FnExactPutInto", spec := "fnExactPutInto", unfollowed := true, recurses := true, apart := false }
def FnExactPutIntoSaid : Prop := fnExactPutIntoRow.holds Try.pinned (OpenSpec.ofChange fnExactPutIntoSpec)

/-- ITS FALSE NEIGHBOUR: 'it returns false'. Refute it at one input. -/
def fnExactPutIntoWrong : ChangeSpec := { name := "fnExactPutInto", fn := fun _ => fun
  | [d1, d2, d3] => { results := [.lit (.bool false)], args := [d1, d2, d3] }
  | _ => none }
def FnExactPutIntoWrongFalsely : Prop := fnExactPutIntoRow.holds Try.pinned (OpenSpec.ofChange fnExactPutIntoWrong)

/-- 'laws.FnExactTakeFrom': WHATEVER THE INPUT: true; the input reads as it did. -/
def fnExactTakeFromSpec : ChangeSpec := { name := "fnExactTakeFrom", fn := fun _ => fun
  | [d1, d2] => { results := [.lit (.bool true)], args := [d1, d2] }
  | _ => none }
def fnExactTakeFromRow : OpenClaim := { program := "ytalciiajhlhecab", sum := "d9907882f22a6b9ba28cb11410bcbdda4996dcf5e2700cf04d4b3e64795f34da", func := "loop.example/g03014/laws.FnExactTakeFrom", spec := "fnExactTakeFrom", unfollowed := true, recurses := true, apart := false }
def FnExactTakeFromSaid : Prop := fnExactTakeFromRow.holds Try.pinned (OpenSpec.ofChange fnExactTakeFromSpec)

/-- ITS FALSE NEIGHBOUR: 'it returns false'. Refute it at one input. -/
def fnExactTakeFromWrong : ChangeSpec := { name := "fnExactTakeFrom", fn := fun _ => fun
  | [d1, d2] => { results := [.lit (.bool false)], args := [d1, d2] }
  | _ => none }
def FnExactTakeFromWrongFalsely : Prop := fnExactTakeFromRow.holds Try.pinned (OpenSpec.ofChange fnExactTakeFromWrong)

/-- 'laws.FnExactSealBox': WHATEVER THE INPUT: true; the input reads as it did. -/
def fnExactSealBoxSpec : ChangeSpec := { name := "fnExactSealBox", fn := fun _ => fun
  | [d1, d2, d3] => { results := [.lit (.bool true)], args := [d1, d2, d3] }
  | _ => none }
def fnExactSealBoxRow : OpenClaim := { program := "ytalciiajhlhecab", sum := "d9907882f22a6b9ba28cb11410bcbdda4996dcf5e2700cf04d4b3e64795f34da", func := "loop.example/g03014/laws.FnExactSealBox", spec := "fnExactSealBox", unfollowed := true, recurses := true, apart := false }
def FnExactSealBoxSaid : Prop := fnExactSealBoxRow.holds Try.pinned (OpenSpec.ofChange fnExactSealBoxSpec)

/-- ITS FALSE NEIGHBOUR: 'it returns false'. Refute it at one input. -/
def fnExactSealBoxWrong : ChangeSpec := { name := "fnExactSealBox", fn := fun _ => fun
  | [d1, d2, d3] => { results := [.lit (.bool false)], args := [d1, d2, d3] }
  | _ => none }
def FnExactSealBoxWrongFalsely : Prop := fnExactSealBoxRow.holds Try.pinned (OpenSpec.ofChange fnExactSealBoxWrong)

/-- 'laws.FnExactEmptyBox': WHATEVER THE INPUT: true; the input reads as it did. -/
def fnExactEmptyBoxSpec : ChangeSpec := { name := "fnExactEmptyBox", fn := fun _ => fun
  | [d1, d2] => { results := [.lit (.bool true)], args := [d1, d2] }
  | _ => none }
def fnExactEmptyBoxRow : OpenClaim := { program := "ytalciiajhlhecab", sum := "d9907882f22a6b9ba28cb11410bcbdda4996dcf5e2700cf04d4b3e64795f34da", func := "loop.example/g03014/laws.FnExactEmptyBox", spec := "fnExactEmptyBox", unfollowed := true, recurses := true, apart := false }
def FnExactEmptyBoxSaid : Prop := fnExactEmptyBoxRow.holds Try.pinned (OpenSpec.ofChange fnExactEmptyBoxSpec)

/-- ITS FALSE NEIGHBOUR: 'it returns false'. Refute it at one input. -/
def fnExactEmptyBoxWrong : ChangeSpec := { name := "fnExactEmptyBox", fn := fun _ => fun
  | [d1, d2] => { results := [.lit (.bool false)], args := [d1, d2] }
  | _ => none }
def FnExactEmptyBoxWrongFalsely : Prop := fnExactEmptyBoxRow.holds Try.pinned (OpenSpec.ofChange fnExactEmptyBoxWrong)

/-- 'laws.FnExactPackAll': WHATEVER THE INPUT: true; the input reads as it did. -/
def fnExactPackAllSpec : ChangeSpec := { name := "fnExactPackAll", fn := fun _ => fun
  | [d1, d2, d3] => { results := [.lit (.bool true)], args := [d1, d2, d3] }
  | _ => none }
def fnExactPackAllRow : OpenClaim := { program := "ytalciiajhlhecab", sum := "d9907882f22a6b9ba28cb11410bcbdda4996dcf5e2700cf04d4b3e64795f34da", func := "loop.example/g03014/laws.FnExactPackAll", spec := "fnExactPackAll", unfollowed := true, recurses := true, apart := false }
def FnExactPackAllSaid : Prop := fnExactPackAllRow.holds Try.pinned (OpenSpec.ofChange fnExactPackAllSpec)

/-- ITS FALSE NEIGHBOUR: 'it returns false'. Refute it at one input. -/
def fnExactPackAllWrong : ChangeSpec := { name := "fnExactPackAll", fn := fun _ => fun
  | [d1, d2, d3] => { results := [.lit (.bool false)], args := [d1, d2, d3] }
  | _ => none }
def FnExactPackAllWrongFalsely : Prop := fnExactPackAllRow.holds Try.pinned (OpenSpec.ofChange fnExactPackAllWrong)

/- THE SECOND FORM. 'bulk': how many values and letters a reading holds, each counted each time it is reached (what is shared counts as often as it is met; a slice's spare places count too). A statement '..UptoSaid' is the law's where the arguments, and the package variables that the reading takes, are together of bulk at most 1048576: NARROWER than '..Said'. Prove '..Said' where nothing that the law and all that it calls make is longer than what came in: it says more and counts as full. Else prove '..UptoSaid'. A law counts once. -/
mutual
def uptoBulk {H : Type} : DataW H → Nat
  | .lit (.string bytes) => bytes.length + 1
  | .lit _ => 1
  | .nil => 1
  | .ptr d => uptoBulk d + 1
  | .slice elems spare => uptoBulkAll elems + uptoBulkAll spare + 1
  | .agg parts => uptoBulkAll parts + 1
  | .iface _ d => uptoBulk d + 1
  | .map entries => uptoBulkEntries entries + 1
  | .held _ => 1
def uptoBulkAll {H : Type} : List (DataW H) → Nat
  | [] => 0
  | d :: r => uptoBulk d + uptoBulkAll r
def uptoBulkEntries {H : Type} : List (Lit × DataW H) → Nat
  | [] => 0
  | x :: r => uptoBulkEntry x + uptoBulkEntries r
def uptoBulkEntry {H : Type} : Lit × DataW H → Nat
  | (.string bytes, d) => bytes.length + uptoBulk d + 1
  | (_, d) => uptoBulk d + 1
 end
def uptoSmall : (H : Type) → List (DataW H) → Bool := fun _ ds => decide (uptoBulkAll ds ≤ 1048576)
def OpenSpec.upto (s : _root_.Go.ChangeSpec) : _root_.Go.OpenSpec := { _root_.Go.OpenSpec.ofChange s with cond := some uptoSmall }

/-- 'laws.FnInside', WHERE WHAT IT READS IS OF BULK AT MOST 1048576: true; the input reads as it did. -/
def fnInsideUptoRow : OpenClaim := { program := "ytalciiajhlhecab", sum := "d9907882f22a6b9ba28cb11410bcbdda4996dcf5e2700cf04d4b3e64795f34da", func := "loop.example/g03014/laws.FnInside", spec := "fnInside", unfollowed := true, recurses := true, apart := false, narrowed := true }
def FnInsideUptoSaid : Prop := fnInsideUptoRow.holds Try.pinned (OpenSpec.upto fnInsideSpec)

/-- 'laws.FnExactFindThing', WHERE WHAT IT READS IS OF BULK AT MOST 1048576: true; the input reads as it did. -/
def fnExactFindThingUptoRow : OpenClaim := { program := "ytalciiajhlhecab", sum := "d9907882f22a6b9ba28cb11410bcbdda4996dcf5e2700cf04d4b3e64795f34da", func := "loop.example/g03014/laws.FnExactFindThing", spec := "fnExactFindThing", unfollowed := true, recurses := true, apart := false, narrowed := true }
def FnExactFindThingUptoSaid : Prop := fnExactFindThingUptoRow.holds Try.pinned (OpenSpec.upto fnExactFindThingSpec)

/-- 'laws.FnExactAreThings', WHERE WHAT IT READS IS OF BULK AT MOST 1048576: true; the input reads as it did. -/
def fnExactAreThingsUptoRow : OpenClaim := { program := "ytalciiajhlhecab", sum := "d9907882f22a6b9ba28cb11410bcbdda4996dcf5e2700cf04d4b3e64795f34da", func := "loop.example/g03014/laws.FnExactAreThings", spec := "fnExactAreThings", unfollowed := true, recurses := true, apart := false, narrowed := true }
def FnExactAreThingsUptoSaid : Prop := fnExactAreThingsUptoRow.holds Try.pinned (OpenSpec.upto fnExactAreThingsSpec)

/-- 'laws.FnExactInsideOf', WHERE WHAT IT READS IS OF BULK AT MOST 1048576: true; the input reads as it did. -/
def fnExactInsideOfUptoRow : OpenClaim := { program := "ytalciiajhlhecab", sum := "d9907882f22a6b9ba28cb11410bcbdda4996dcf5e2700cf04d4b3e64795f34da", func := "loop.example/g03014/laws.FnExactInsideOf", spec := "fnExactInsideOf", unfollowed := true, recurses := true, apart := false, narrowed := true }
def FnExactInsideOfUptoSaid : Prop := fnExactInsideOfUptoRow.holds Try.pinned (OpenSpec.upto fnExactInsideOfSpec)

/-- 'laws.FnExactAllInside', WHERE WHAT IT READS IS OF BULK AT MOST 1048576: true; the input reads as it did. -/
def fnExactAllInsideUptoRow : OpenClaim := { program := "ytalciiajhlhecab", sum := "d9907882f22a6b9ba28cb11410bcbdda4996dcf5e2700cf04d4b3e64795f34da", func := "loop.example/g03014/laws.FnExactAllInside", spec := "fnExactAllInside", unfollowed := true, recurses := true, apart := false, narrowed := true }
def FnExactAllInsideUptoSaid : Prop := fnExactAllInsideUptoRow.holds Try.pinned (OpenSpec.upto fnExactAllInsideSpec)

/-- 'laws.FnExactGrossOf', WHERE WHAT IT READS IS OF BULK AT MOST 1048576: true; the input reads as it did. -/
def fnExactGrossOfUptoRow : OpenClaim := { program := "ytalciiajhlhecab", sum := "d9907882f22a6b9ba28cb11410bcbdda4996dcf5e2700cf04d4b3e64795f34da", func := "loop.example/g03014/laws.FnExactGrossOf", spec := "fnExactGrossOf", unfollowed := true, recurses := true, apart := false, narrowed := true }
def FnExactGrossOfUptoSaid : Prop := fnExactGrossOfUptoRow.holds Try.pinned (OpenSpec.upto fnExactGrossOfSpec)

/-- 'laws.FnExactOuterOf', WHERE WHAT IT READS IS OF BULK AT MOST 1048576: true; the input reads as it did. -/
def fnExactOuterOfUptoRow : OpenClaim := { program := "ytalciiajhlhecab", sum := "d9907882f22a6b9ba28cb11410bcbdda4996dcf5e2700cf04d4b3e64795f34da", func := "loop.example/g03014/laws.FnExactOuterOf", spec := "fnExactOuterOf", unfollowed := true, recurses := true, apart := false, narrowed := true }
def FnExactOuterOfUptoSaid : Prop := fnExactOuterOfUptoRow.holds Try.pinned (OpenSpec.upto fnExactOuterOfSpec)

/-- 'laws.FnExactDepthOf', WHERE WHAT IT READS IS OF BULK AT MOST 1048576: true; the input reads as it did. -/
def fnExactDepthOfUptoRow : OpenClaim := { program := "ytalciiajhlhecab", sum := "d9907882f22a6b9ba28cb11410bcbdda4996dcf5e2700cf04d4b3e64795f34da", func := "loop.example/g03014/laws.FnExactDepthOf", spec := "fnExactDepthOf", unfollowed := true, recurses := true, apart := false, narrowed := true }
def FnExactDepthOfUptoSaid : Prop := fnExactDepthOfUptoRow.holds Try.pinned (OpenSpec.upto fnExactDepthOfSpec)

/-- 'laws.FnExactIsLocked', WHERE WHAT IT READS IS OF BULK AT MOST 1048576: true; the input reads as it did. -/
def fnExactIsLockedUptoRow : OpenClaim := { program := "ytalciiajhlhecab", sum := "d9907882f22a6b9ba28cb11410bcbdda4996dcf5e2700cf04d4b3e64795f34da", func := "loop.example/g03014/laws.FnExactIsLocked", spec := "fnExactIsLocked", unfollowed := true, recurses := true, apart := false, narrowed := true }
def FnExactIsLockedUptoSaid : Prop := fnExactIsLockedUptoRow.holds Try.pinned (OpenSpec.upto fnExactIsLockedSpec)

/-- 'laws.FnExactPutInto', WHERE WHAT IT READS IS OF BULK AT MOST 1048576: true; the input reads as it did. -/
def fnExactPutIntoUptoRow : OpenClaim := { program := "ytalciiajhlhecab", sum := "d9907882f22a6b9ba28cb11410bcbdda4996dcf5e2700cf04d4b3e64795f34da", func := "loop.example/g03014/laws.FnExactPutInto", spec := "fnExactPutInto", unfollowed := true, recurses := true, apart := false, narrowed := true }
def FnExactPutIntoUptoSaid : Prop := fnExactPutIntoUptoRow.holds Try.pinned (OpenSpec.upto fnExactPutIntoSpec)

/-- 'laws.FnExactTakeFrom', WHERE WHAT IT READS IS OF BULK AT MOST 1048576: true; the input reads as it did. -/
def fnExactTakeFromUptoRow : OpenClaim := { program := "ytalciiajhlhecab", sum := "d9907882f22a6b9ba28cb11410bcbdda4996dcf5e2700cf04d4b3e64795f34da", func := "loop.example/g03014/laws.FnExactTakeFrom", spec := "fnExactTakeFrom", unfollowed := true, recurses := true, apart := false, narrowed := true }
def FnExactTakeFromUptoSaid : Prop := fnExactTakeFromUptoRow.holds Try.pinned (OpenSpec.upto fnExactTakeFromSpec)

/-- 'laws.FnExactSealBox', WHERE WHAT IT READS IS OF BULK AT MOST 1048576: true; the input reads as it did. -/
def fnExactSealBoxUptoRow : OpenClaim := { program := "ytalciiajhlhecab", sum := "d9907882f22a6b9ba28cb11410bcbdda4996dcf5e2700cf04d4b3e64795f34da", func := "loop.example/g03014/laws.FnExactSealBox", spec := "fnExactSealBox", unfollowed := true, recurses := true, apart := false, narrowed := true }
def FnExactSealBoxUptoSaid : Prop := fnExactSealBoxUptoRow.holds Try.pinned (OpenSpec.upto fnExactSealBoxSpec)

/-- 'laws.FnExactEmptyBox', WHERE WHAT IT READS IS OF BULK AT MOST 1048576: true; the input reads as it did. -/
def fnExactEmptyBoxUptoRow : OpenClaim := { program := "ytalciiajhlhecab", sum := "d9907882f22a6b9ba28cb11410bcbdda4996dcf5e2700cf04d4b3e64795f34da", func := "loop.example/g03014/laws.FnExactEmptyBox", spec := "fnExactEmptyBox", unfollowed := true, recurses := true, apart := false, narrowed := true }
def FnExactEmptyBoxUptoSaid : Prop := fnExactEmptyBoxUptoRow.holds Try.pinned (OpenSpec.upto fnExactEmptyBoxSpec)

/-- 'laws.FnExactPackAll', WHERE WHAT IT READS IS OF BULK AT MOST 1048576: true; the input reads as it did. -/
def fnExactPackAllUptoRow : OpenClaim := { program := "ytalciiajhlhecab", sum := "d9907882f22a6b9ba28cb11410bcbdda4996dcf5e2700cf04d4b3e64795f34da", func := "loop.example/g03014/laws.FnExactPackAll", spec := "fnExactPackAll", unfollowed := true, recurses := true, apart := false, narrowed := true }
def FnExactPackAllUptoSaid : Prop := fnExactPackAllUptoRow.holds Try.pinned (OpenSpec.upto fnExactPackAllSpec)

end Rows
end Go.Proofs.Ytalciiajhlhecab
