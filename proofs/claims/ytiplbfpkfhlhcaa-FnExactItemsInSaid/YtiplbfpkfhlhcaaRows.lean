/-
  No cell of these rows narrows 'for every input' (looked for: loops, veiled, ifaces, maps, wideKeys, modest, calm, conditions, laid).
  DERIVED. THE GIVEN ROWS OF THIS SEAT. 20 by the template 'for every input the law returns true; each argument reads behind the call as it read before'; 0 by the template 'total and deterministic' (their statements: YtiplbfpkfhlhcaaTotals.lean).
  GIVEN WITH THE SEED: the statements are not yours to turn. If you find one false, say at which input.
  Laid BY PROGRAM, IN A SANDBOX (cutbox-rows.mjs): the forced cells as the released guide's own fill.sh prints them over the translation ef52a05f4b9d9cd8… (all of the seat's roots in one cut). By AI agents, Wed Nov 11 2026. No macro, syntax, notation, axiom, sorry.
-/
import Derived.Test.YtiplbfpkfhlhcaaChecked
import GoSem.Claim
import GoSem.ClaimJoined
import GoSem.ClaimMapViews
import Derived.JoinedTies
import Derived.KernelRfl
namespace Go.Proofs.Ytiplbfpkfhlhcaa
/- THE CELL 'sum', in the pinned program and in every row, IS THE sha256 OF THE DUMP (.gsa) THAT YtiplbfpkfhlhcaaProg.lean LOADS. Nothing in Lean hashes anything: it is a label: what it is worth is what the hold of that sum in a sandbox is worth. -/
noncomputable def Try.pinned : Pinned := { name := "ytiplbfpkfhlhcaa", sum := "ef52a05f4b9d9cd8e485342668fd8bf4c0518ed5608e0a03a68e76e5458562d5", checked := Try.checked }
namespace Rows
def none {H : Type} : Left H := { results := [], args := [] }

/-- 'laws.FnExactCountBelt': WHATEVER THE INPUT: true; the input reads as it did. -/
def fnExactCountBeltSpec : ChangeSpec := { name := "fnExactCountBelt", fn := fun _ => fun
  | [d] => { results := [.lit (.bool true)], args := [d] }
  | _ => none }
def fnExactCountBeltRow : OpenClaim := { program := "ytiplbfpkfhlhcaa", sum := "ef52a05f4b9d9cd8e485342668fd8bf4c0518ed5608e0a03a68e76e5458562d5", func := "loop.example/g03014/laws.FnExactCountBelt", spec := "fnExactCountBelt", apart := false }
def FnExactCountBeltSaid : Prop := fnExactCountBeltRow.holds Try.pinned (OpenSpec.ofChange fnExactCountBeltSpec)

/-- ITS FALSE NEIGHBOUR: 'it returns false'. Refute it at one input. -/
def fnExactCountBeltWrong : ChangeSpec := { name := "fnExactCountBelt", fn := fun _ => fun
  | [d] => { results := [.lit (.bool false)], args := [d] }
  | _ => none }
def FnExactCountBeltWrongFalsely : Prop := fnExactCountBeltRow.holds Try.pinned (OpenSpec.ofChange fnExactCountBeltWrong)

/-- 'laws.FnExactCountWait': WHATEVER THE INPUT: true; the input reads as it did. -/
def fnExactCountWaitSpec : ChangeSpec := { name := "fnExactCountWait", fn := fun _ => fun
  | [d] => { results := [.lit (.bool true)], args := [d] }
  | _ => none }
def fnExactCountWaitRow : OpenClaim := { program := "ytiplbfpkfhlhcaa", sum := "ef52a05f4b9d9cd8e485342668fd8bf4c0518ed5608e0a03a68e76e5458562d5", func := "loop.example/g03014/laws.FnExactCountWait", spec := "fnExactCountWait", apart := false }
def FnExactCountWaitSaid : Prop := fnExactCountWaitRow.holds Try.pinned (OpenSpec.ofChange fnExactCountWaitSpec)

/-- ITS FALSE NEIGHBOUR: 'it returns false'. Refute it at one input. -/
def fnExactCountWaitWrong : ChangeSpec := { name := "fnExactCountWait", fn := fun _ => fun
  | [d] => { results := [.lit (.bool false)], args := [d] }
  | _ => none }
def FnExactCountWaitWrongFalsely : Prop := fnExactCountWaitRow.holds Try.pinned (OpenSpec.ofChange fnExactCountWaitWrong)

/-- 'laws.FnExactIsCentre': WHATEVER THE INPUT: true; the input reads as it did. -/
def fnExactIsCentreSpec : ChangeSpec := { name := "fnExactIsCentre", fn := fun _ => fun
  | [d] => { results := [.lit (.bool true)], args := [d] }
  | _ => none }
def fnExactIsCentreRow : OpenClaim := { program := "ytiplbfpkfhlhcaa", sum := "ef52a05f4b9d9cd8e485342668fd8bf4c0518ed5608e0a03a68e76e5458562d5", func := "loop.example/g03014/laws.FnExactIsCentre", spec := "fnExactIsCentre", unfollowed := true, recurses := true, apart := false }
def FnExactIsCentreSaid : Prop := fnExactIsCentreRow.holds Try.pinned (OpenSpec.ofChange fnExactIsCentreSpec)

/-- ITS FALSE NEIGHBOUR: 'it returns false'. Refute it at one input. -/
def fnExactIsCentreWrong : ChangeSpec := { name := "fnExactIsCentre", fn := fun _ => fun
  | [d] => { results := [.lit (.bool false)], args := [d] }
  | _ => none }
def FnExactIsCentreWrongFalsely : Prop := fnExactIsCentreRow.holds Try.pinned (OpenSpec.ofChange fnExactIsCentreWrong)

/-- 'laws.FnExactIsDrained': WHATEVER THE INPUT: true; the input reads as it did. -/
def fnExactIsDrainedSpec : ChangeSpec := { name := "fnExactIsDrained", fn := fun _ => fun
  | [d] => { results := [.lit (.bool true)], args := [d] }
  | _ => none }
def fnExactIsDrainedRow : OpenClaim := { program := "ytiplbfpkfhlhcaa", sum := "ef52a05f4b9d9cd8e485342668fd8bf4c0518ed5608e0a03a68e76e5458562d5", func := "loop.example/g03014/laws.FnExactIsDrained", spec := "fnExactIsDrained", unfollowed := true, recurses := true, apart := false }
def FnExactIsDrainedSaid : Prop := fnExactIsDrainedRow.holds Try.pinned (OpenSpec.ofChange fnExactIsDrainedSpec)

/-- ITS FALSE NEIGHBOUR: 'it returns false'. Refute it at one input. -/
def fnExactIsDrainedWrong : ChangeSpec := { name := "fnExactIsDrained", fn := fun _ => fun
  | [d] => { results := [.lit (.bool false)], args := [d] }
  | _ => none }
def FnExactIsDrainedWrongFalsely : Prop := fnExactIsDrainedRow.holds Try.pinned (OpenSpec.ofChange fnExactIsDrainedWrong)

/-- 'laws.FnExactIsStuck': WHATEVER THE INPUT: true; the input reads as it did. -/
def fnExactIsStuckSpec : ChangeSpec := { name := "fnExactIsStuck", fn := fun _ => fun
  | [d] => { results := [.lit (.bool true)], args := [d] }
  | _ => none }
def fnExactIsStuckRow : OpenClaim := { program := "ytiplbfpkfhlhcaa", sum := "ef52a05f4b9d9cd8e485342668fd8bf4c0518ed5608e0a03a68e76e5458562d5", func := "loop.example/g03014/laws.FnExactIsStuck", spec := "fnExactIsStuck", unfollowed := true, recurses := true, apart := false }
def FnExactIsStuckSaid : Prop := fnExactIsStuckRow.holds Try.pinned (OpenSpec.ofChange fnExactIsStuckSpec)

/-- ITS FALSE NEIGHBOUR: 'it returns false'. Refute it at one input. -/
def fnExactIsStuckWrong : ChangeSpec := { name := "fnExactIsStuck", fn := fun _ => fun
  | [d] => { results := [.lit (.bool false)], args := [d] }
  | _ => none }
def FnExactIsStuckWrongFalsely : Prop := fnExactIsStuckRow.holds Try.pinned (OpenSpec.ofChange fnExactIsStuckWrong)

/-- 'laws.FnExactCellsTo': WHATEVER THE INPUT: true; the input reads as it did. -/
def fnExactCellsToSpec : ChangeSpec := { name := "fnExactCellsTo", fn := fun _ => fun
  | [d1, d2, d3] => { results := [.lit (.bool true)], args := [d1, d2, d3] }
  | _ => none }
def fnExactCellsToRow : OpenClaim := { program := "ytiplbfpkfhlhcaa", sum := "ef52a05f4b9d9cd8e485342668fd8bf4c0518ed5608e0a03a68e76e5458562d5", func := "loop.example/g03014/laws.FnExactCellsTo", spec := "fnExactCellsTo", unfollowed := true, recurses := true, apart := false }
def FnExactCellsToSaid : Prop := fnExactCellsToRow.holds Try.pinned (OpenSpec.ofChange fnExactCellsToSpec)

/-- ITS FALSE NEIGHBOUR: 'it returns false'. Refute it at one input. -/
def fnExactCellsToWrong : ChangeSpec := { name := "fnExactCellsTo", fn := fun _ => fun
  | [d1, d2, d3] => { results := [.lit (.bool false)], args := [d1, d2, d3] }
  | _ => none }
def FnExactCellsToWrongFalsely : Prop := fnExactCellsToRow.holds Try.pinned (OpenSpec.ofChange fnExactCellsToWrong)

/-- 'laws.FnExactWhereIs': WHATEVER THE INPUT: true; the input reads as it did. -/
def fnExactWhereIsSpec : ChangeSpec := { name := "fnExactWhereIs", fn := fun _ => fun
  | [d1, d2] => { results := [.lit (.bool true)], args := [d1, d2] }
  | _ => none }
def fnExactWhereIsRow : OpenClaim := { program := "ytiplbfpkfhlhcaa", sum := "ef52a05f4b9d9cd8e485342668fd8bf4c0518ed5608e0a03a68e76e5458562d5", func := "loop.example/g03014/laws.FnExactWhereIs", spec := "fnExactWhereIs", unfollowed := true, recurses := true, apart := false }
def FnExactWhereIsSaid : Prop := fnExactWhereIsRow.holds Try.pinned (OpenSpec.ofChange fnExactWhereIsSpec)

/-- ITS FALSE NEIGHBOUR: 'it returns false'. Refute it at one input. -/
def fnExactWhereIsWrong : ChangeSpec := { name := "fnExactWhereIs", fn := fun _ => fun
  | [d1, d2] => { results := [.lit (.bool false)], args := [d1, d2] }
  | _ => none }
def FnExactWhereIsWrongFalsely : Prop := fnExactWhereIsRow.holds Try.pinned (OpenSpec.ofChange fnExactWhereIsWrong)

/-- 'laws.FnExactItemsIn': WHATEVER THE INPUT: true; the input reads as it did. -/
def fnExactItemsInSpec : ChangeSpec := { name := "fnExactItemsIn", fn := fun _ => fun
  | [d] => { results := [.lit (.bool true)], args := [d] }
  | _ => none }
def fnExactItemsInRow : OpenClaim := { program := "ytiplbfpkfhlhcaa", sum := "ef52a05f4b9d9cd8e485342668fd8bf4c0518ed5608e0a03a68e76e5458562d5", func := "loop.example/g03014/laws.FnExactItemsIn", spec := "fnExactItemsIn", unfollowed := true, recurses := true, apart := false }
def FnExactItemsInSaid : Prop := fnExactItemsInRow.holds Try.pinned (OpenSpec.ofChange fnExactItemsInSpec)

/-- ITS FALSE NEIGHBOUR: 'it returns false'. Refute it at one input. -/
def fnExactItemsInWrong : ChangeSpec := { name := "fnExactItemsIn", fn := fun _ => fun
  | [d] => { results := [.lit (.bool false)], args := [d] }
  | _ => none }
def FnExactItemsInWrongFalsely : Prop := fnExactItemsInRow.holds Try.pinned (OpenSpec.ofChange fnExactItemsInWrong)

/-- 'laws.FnExactNewCentre': WHATEVER THE INPUT: true; the input reads as it did. -/
def fnExactNewCentreSpec : ChangeSpec := { name := "fnExactNewCentre", fn := fun _ => fun
  | [d1, d2, d3, d4, d5] => { results := [.lit (.bool true)], args := [d1, d2, d3, d4, d5] }
  | _ => none }
def fnExactNewCentreRow : OpenClaim := { program := "ytiplbfpkfhlhcaa", sum := "ef52a05f4b9d9cd8e485342668fd8bf4c0518ed5608e0a03a68e76e5458562d5", func := "loop.example/g03014/laws.FnExactNewCentre", spec := "fnExactNewCentre", unfollowed := true, recurses := true, apart := false }
def FnExactNewCentreSaid : Prop := fnExactNewCentreRow.holds Try.pinned (OpenSpec.ofChange fnExactNewCentreSpec)

/-- ITS FALSE NEIGHBOUR: 'it returns false'. Refute it at one input. -/
def fnExactNewCentreWrong : ChangeSpec := { name := "fnExactNewCentre", fn := fun _ => fun
  | [d1, d2, d3, d4, d5] => { results := [.lit (.bool false)], args := [d1, d2, d3, d4, d5] }
  | _ => none }
def FnExactNewCentreWrongFalsely : Prop := fnExactNewCentreRow.holds Try.pinned (OpenSpec.ofChange fnExactNewCentreWrong)

/-- 'laws.FnExactSetPlan': WHATEVER THE INPUT: true; the input reads as it did. -/
def fnExactSetPlanSpec : ChangeSpec := { name := "fnExactSetPlan", fn := fun _ => fun
  | [d1, d2, d3] => { results := [.lit (.bool true)], args := [d1, d2, d3] }
  | _ => none }
def fnExactSetPlanRow : OpenClaim := { program := "ytiplbfpkfhlhcaa", sum := "ef52a05f4b9d9cd8e485342668fd8bf4c0518ed5608e0a03a68e76e5458562d5", func := "loop.example/g03014/laws.FnExactSetPlan", spec := "fnExactSetPlan", unfollowed := true, recurses := true, apart := false }
def FnExactSetPlanSaid : Prop := fnExactSetPlanRow.holds Try.pinned (OpenSpec.ofChange fnExactSetPlanSpec)

/-- ITS FALSE NEIGHBOUR: 'it returns false'. Refute it at one input. -/
def fnExactSetPlanWrong : ChangeSpec := { name := "fnExactSetPlan", fn := fun _ => fun
  | [d1, d2, d3] => { results := [.lit (.bool false)], args := [d1, d2, d3] }
  | _ => none }
def FnExactSetPlanWrongFalsely : Prop := fnExactSetPlanRow.holds Try.pinned (OpenSpec.ofChange fnExactSetPlanWrong)

/-- 'laws.FnExactClearChute': WHATEVER THE INPUT: true; the input reads as it did. -/
def fnExactClearChuteSpec : ChangeSpec := { name := "fnExactClearChute", fn := fun _ => fun
  | [d1, d2] => { results := [.lit (.bool true)], args := [d1, d2] }
  | _ => none }
def fnExactClearChuteRow : OpenClaim := { program := "ytiplbfpkfhlhcaa", sum := "ef52a05f4b9d9cd8e485342668fd8bf4c0518ed5608e0a03a68e76e5458562d5", func := "loop.example/g03014/laws.FnExactClearChute", spec := "fnExactClearChute", unfollowed := true, recurses := true, apart := false }
def FnExactClearChuteSaid : Prop := fnExactClearChuteRow.holds Try.pinned (OpenSpec.ofChange fnExactClearChuteSpec)

/-- ITS FALSE NEIGHBOUR: 'it returns false'. Refute it at one input. -/
def fnExactClearChuteWrong : ChangeSpec := { name := "fnExactClearChute", fn := fun _ => fun
  | [d1, d2] => { results := [.lit (.bool false)], args := [d1, d2] }
  | _ => none }
def FnExactClearChuteWrongFalsely : Prop := fnExactClearChuteRow.holds Try.pinned (OpenSpec.ofChange fnExactClearChuteWrong)

/-- 'laws.FnExactFeedCentre': WHATEVER THE INPUT: true; the input reads as it did. -/
def fnExactFeedCentreSpec : ChangeSpec := { name := "fnExactFeedCentre", fn := fun _ => fun
  | [d1, d2, d3] => { results := [.lit (.bool true)], args := [d1, d2, d3] }
  | _ => none }
def fnExactFeedCentreRow : OpenClaim := { program := "ytiplbfpkfhlhcaa", sum := "ef52a05f4b9d9cd8e485342668fd8bf4c0518ed5608e0a03a68e76e5458562d5", func := "loop.example/g03014/laws.FnExactFeedCentre", spec := "fnExactFeedCentre", unfollowed := true, recurses := true, apart := false }
def FnExactFeedCentreSaid : Prop := fnExactFeedCentreRow.holds Try.pinned (OpenSpec.ofChange fnExactFeedCentreSpec)

/-- ITS FALSE NEIGHBOUR: 'it returns false'. Refute it at one input. -/
def fnExactFeedCentreWrong : ChangeSpec := { name := "fnExactFeedCentre", fn := fun _ => fun
  | [d1, d2, d3] => { results := [.lit (.bool false)], args := [d1, d2, d3] }
  | _ => none }
def FnExactFeedCentreWrongFalsely : Prop := fnExactFeedCentreRow.holds Try.pinned (OpenSpec.ofChange fnExactFeedCentreWrong)

/-- 'laws.FnExactRunCentre': WHATEVER THE INPUT: true; the input reads as it did. -/
def fnExactRunCentreSpec : ChangeSpec := { name := "fnExactRunCentre", fn := fun _ => fun
  | [d1, d2] => { results := [.lit (.bool true)], args := [d1, d2] }
  | _ => none }
def fnExactRunCentreRow : OpenClaim := { program := "ytiplbfpkfhlhcaa", sum := "ef52a05f4b9d9cd8e485342668fd8bf4c0518ed5608e0a03a68e76e5458562d5", func := "loop.example/g03014/laws.FnExactRunCentre", spec := "fnExactRunCentre", unfollowed := true, recurses := true, apart := false }
def FnExactRunCentreSaid : Prop := fnExactRunCentreRow.holds Try.pinned (OpenSpec.ofChange fnExactRunCentreSpec)

/-- ITS FALSE NEIGHBOUR: 'it returns false'. Refute it at one input. -/
def fnExactRunCentreWrong : ChangeSpec := { name := "fnExactRunCentre", fn := fun _ => fun
  | [d1, d2] => { results := [.lit (.bool false)], args := [d1, d2] }
  | _ => none }
def FnExactRunCentreWrongFalsely : Prop := fnExactRunCentreRow.holds Try.pinned (OpenSpec.ofChange fnExactRunCentreWrong)

/-- 'laws.FnExactTickCentre': WHATEVER THE INPUT: true; the input reads as it did. -/
def fnExactTickCentreSpec : ChangeSpec := { name := "fnExactTickCentre", fn := fun _ => fun
  | [d] => { results := [.lit (.bool true)], args := [d] }
  | _ => none }
def fnExactTickCentreRow : OpenClaim := { program := "ytiplbfpkfhlhcaa", sum := "ef52a05f4b9d9cd8e485342668fd8bf4c0518ed5608e0a03a68e76e5458562d5", func := "loop.example/g03014/laws.FnExactTickCentre", spec := "fnExactTickCentre", unfollowed := true, recurses := true, apart := false }
def FnExactTickCentreSaid : Prop := fnExactTickCentreRow.holds Try.pinned (OpenSpec.ofChange fnExactTickCentreSpec)

/-- ITS FALSE NEIGHBOUR: 'it returns false'. Refute it at one input. -/
def fnExactTickCentreWrong : ChangeSpec := { name := "fnExactTickCentre", fn := fun _ => fun
  | [d] => { results := [.lit (.bool false)], args := [d] }
  | _ => none }
def FnExactTickCentreWrongFalsely : Prop := fnExactTickCentreRow.holds Try.pinned (OpenSpec.ofChange fnExactTickCentreWrong)

/-- 'laws.FnExactTicksToDrain': WHATEVER THE INPUT: true; the input reads as it did. -/
def fnExactTicksToDrainSpec : ChangeSpec := { name := "fnExactTicksToDrain", fn := fun _ => fun
  | [d1, d2] => { results := [.lit (.bool true)], args := [d1, d2] }
  | _ => none }
def fnExactTicksToDrainRow : OpenClaim := { program := "ytiplbfpkfhlhcaa", sum := "ef52a05f4b9d9cd8e485342668fd8bf4c0518ed5608e0a03a68e76e5458562d5", func := "loop.example/g03014/laws.FnExactTicksToDrain", spec := "fnExactTicksToDrain", unfollowed := true, recurses := true, apart := false }
def FnExactTicksToDrainSaid : Prop := fnExactTicksToDrainRow.holds Try.pinned (OpenSpec.ofChange fnExactTicksToDrainSpec)

/-- ITS FALSE NEIGHBOUR: 'it returns false'. Refute it at one input. -/
def fnExactTicksToDrainWrong : ChangeSpec := { name := "fnExactTicksToDrain", fn := fun _ => fun
  | [d1, d2] => { results := [.lit (.bool false)], args := [d1, d2] }
  | _ => none }
def FnExactTicksToDrainWrongFalsely : Prop := fnExactTicksToDrainRow.holds Try.pinned (OpenSpec.ofChange fnExactTicksToDrainWrong)

/-- 'laws.FnCells': WHATEVER THE INPUT: true; the input reads as it did. -/
def fnCellsSpec : ChangeSpec := { name := "fnCells", fn := fun _ => fun
  | [d] => { results := [.lit (.bool true)], args := [d] }
  | _ => none }
def fnCellsRow : OpenClaim := { program := "ytiplbfpkfhlhcaa", sum := "ef52a05f4b9d9cd8e485342668fd8bf4c0518ed5608e0a03a68e76e5458562d5", func := "loop.example/g03014/laws.FnCells", spec := "fnCells", unfollowed := true, recurses := true, apart := false }
def FnCellsSaid : Prop := fnCellsRow.holds Try.pinned (OpenSpec.ofChange fnCellsSpec)

/-- ITS FALSE NEIGHBOUR: 'it returns false'. Refute it at one input. -/
def fnCellsWrong : ChangeSpec := { name := "fnCells", fn := fun _ => fun
  | [d] => { results := [.lit (.bool false)], args := [d] }
  | _ => none }
def FnCellsWrongFalsely : Prop := fnCellsRow.holds Try.pinned (OpenSpec.ofChange fnCellsWrong)

/-- 'laws.FnBeltRight': WHATEVER THE INPUT: true; the input reads as it did. -/
def fnBeltRightSpec : ChangeSpec := { name := "fnBeltRight", fn := fun _ => fun
  | [d] => { results := [.lit (.bool true)], args := [d] }
  | _ => none }
def fnBeltRightRow : OpenClaim := { program := "ytiplbfpkfhlhcaa", sum := "ef52a05f4b9d9cd8e485342668fd8bf4c0518ed5608e0a03a68e76e5458562d5", func := "loop.example/g03014/laws.FnBeltRight", spec := "fnBeltRight", unfollowed := true, recurses := true, apart := false }
def FnBeltRightSaid : Prop := fnBeltRightRow.holds Try.pinned (OpenSpec.ofChange fnBeltRightSpec)

/-- ITS FALSE NEIGHBOUR: 'it returns false'. Refute it at one input. -/
def fnBeltRightWrong : ChangeSpec := { name := "fnBeltRight", fn := fun _ => fun
  | [d] => { results := [.lit (.bool false)], args := [d] }
  | _ => none }
def FnBeltRightWrongFalsely : Prop := fnBeltRightRow.holds Try.pinned (OpenSpec.ofChange fnBeltRightWrong)

/-- 'laws.FnBeltHalves': WHATEVER THE INPUT: true; the input reads as it did. -/
def fnBeltHalvesSpec : ChangeSpec := { name := "fnBeltHalves", fn := fun _ => fun
  | [d] => { results := [.lit (.bool true)], args := [d] }
  | _ => none }
def fnBeltHalvesRow : OpenClaim := { program := "ytiplbfpkfhlhcaa", sum := "ef52a05f4b9d9cd8e485342668fd8bf4c0518ed5608e0a03a68e76e5458562d5", func := "loop.example/g03014/laws.FnBeltHalves", spec := "fnBeltHalves", unfollowed := true, recurses := true, apart := false }
def FnBeltHalvesSaid : Prop := fnBeltHalvesRow.holds Try.pinned (OpenSpec.ofChange fnBeltHalvesSpec)

/-- ITS FALSE NEIGHBOUR: 'it returns false'. Refute it at one input. -/
def fnBeltHalvesWrong : ChangeSpec := { name := "fnBeltHalves", fn := fun _ => fun
  | [d] => { results := [.lit (.bool false)], args := [d] }
  | _ => none }
def FnBeltHalvesWrongFalsely : Prop := fnBeltHalvesRow.holds Try.pinned (OpenSpec.ofChange fnBeltHalvesWrong)

/-- 'laws.FnBeltStuck': WHATEVER THE INPUT: true; the input reads as it did. -/
def fnBeltStuckSpec : ChangeSpec := { name := "fnBeltStuck", fn := fun _ => fun
  | [d] => { results := [.lit (.bool true)], args := [d] }
  | _ => none }
def fnBeltStuckRow : OpenClaim := { program := "ytiplbfpkfhlhcaa", sum := "ef52a05f4b9d9cd8e485342668fd8bf4c0518ed5608e0a03a68e76e5458562d5", func := "loop.example/g03014/laws.FnBeltStuck", spec := "fnBeltStuck", unfollowed := true, recurses := true, apart := false }
def FnBeltStuckSaid : Prop := fnBeltStuckRow.holds Try.pinned (OpenSpec.ofChange fnBeltStuckSpec)

/-- ITS FALSE NEIGHBOUR: 'it returns false'. Refute it at one input. -/
def fnBeltStuckWrong : ChangeSpec := { name := "fnBeltStuck", fn := fun _ => fun
  | [d] => { results := [.lit (.bool false)], args := [d] }
  | _ => none }
def FnBeltStuckWrongFalsely : Prop := fnBeltStuckRow.holds Try.pinned (OpenSpec.ofChange fnBeltStuckWrong)

/-- 'laws.FnBeltDrains': WHATEVER THE INPUT: true; the input reads as it did. -/
def fnBeltDrainsSpec : ChangeSpec := { name := "fnBeltDrains", fn := fun _ => fun
  | [d] => { results := [.lit (.bool true)], args := [d] }
  | _ => none }
def fnBeltDrainsRow : OpenClaim := { program := "ytiplbfpkfhlhcaa", sum := "ef52a05f4b9d9cd8e485342668fd8bf4c0518ed5608e0a03a68e76e5458562d5", func := "loop.example/g03014/laws.FnBeltDrains", spec := "fnBeltDrains", unfollowed := true, recurses := true, apart := false }
def FnBeltDrainsSaid : Prop := fnBeltDrainsRow.holds Try.pinned (OpenSpec.ofChange fnBeltDrainsSpec)

/-- ITS FALSE NEIGHBOUR: 'it returns false'. Refute it at one input. -/
def fnBeltDrainsWrong : ChangeSpec := { name := "fnBeltDrains", fn := fun _ => fun
  | [d] => { results := [.lit (.bool false)], args := [d] }
  | _ => none }
def FnBeltDrainsWrongFalsely : Prop := fnBeltDrainsRow.holds Try.pinned (OpenSpec.ofChange fnBeltDrainsWrong)

/- THE SECOND FORM. 'bulk': how many values and letters a reading holds, each counted each time it is reached (what is shared counts as often as it is met; a slice's spare places count too). A statement '..UptoSaid' is the law's where the arguments, and the package variables that the reading takes, are together of bulk at most 1048576: NARROWER than '..Said'. Prove '..Said' where nothing that the law and all that it calls make is longer than what came in: it says more and counts as full. Else prove '..UptoSaid'. A law counts once. -/
mutual
def uptoBulk {H : Type} : DataW H → Nat
  | .lit (.string bytes) => bytes.length + 1
  | .lit _ => 1
  | .nil => 1
  | .ptr d => uptoBulk d + 1
  | .slice elems spare => uptoBulkAll elems + uptoBulkAll spare + 1
  | .agg parts => uptoBulkAll parts + 1
  | .iface _ d => uptoBulk d + 1
  | .map entries => uptoBulkEntries entries + 1
  | .held _ => 1
def uptoBulkAll {H : Type} : List (DataW H) → Nat
  | [] => 0
  | d :: r => uptoBulk d + uptoBulkAll r
def uptoBulkEntries {H : Type} : List (Lit × DataW H) → Nat
  | [] => 0
  | x :: r => uptoBulkEntry x + uptoBulkEntries r
def uptoBulkEntry {H : Type} : Lit × DataW H → Nat
  | (.string bytes, d) => bytes.length + uptoBulk d + 1
  | (_, d) => uptoBulk d + 1
 end
def uptoSmall : (H : Type) → List (DataW H) → Bool := fun _ ds => decide (uptoBulkAll ds ≤ 1048576)
def OpenSpec.upto (s : _root_.Go.ChangeSpec) : _root_.Go.OpenSpec := { _root_.Go.OpenSpec.ofChange s with cond := some uptoSmall }

/-- 'laws.FnExactCountBelt', WHERE WHAT IT READS IS OF BULK AT MOST 1048576: true; the input reads as it did. -/
def fnExactCountBeltUptoRow : OpenClaim := { program := "ytiplbfpkfhlhcaa", sum := "ef52a05f4b9d9cd8e485342668fd8bf4c0518ed5608e0a03a68e76e5458562d5", func := "loop.example/g03014/laws.FnExactCountBelt", spec := "fnExactCountBelt", apart := false, narrowed := true }
def FnExactCountBeltUptoSaid : Prop := fnExactCountBeltUptoRow.holds Try.pinned (OpenSpec.upto fnExactCountBeltSpec)

/-- 'laws.FnExactCountWait', WHERE WHAT IT READS IS OF BULK AT MOST 1048576: true; the input reads as it did. -/
def fnExactCountWaitUptoRow : OpenClaim := { program := "ytiplbfpkfhlhcaa", sum := "ef52a05f4b9d9cd8e485342668fd8bf4c0518ed5608e0a03a68e76e5458562d5", func := "loop.example/g03014/laws.FnExactCountWait", spec := "fnExactCountWait", apart := false, narrowed := true }
def FnExactCountWaitUptoSaid : Prop := fnExactCountWaitUptoRow.holds Try.pinned (OpenSpec.upto fnExactCountWaitSpec)

/-- 'laws.FnExactIsCentre', WHERE WHAT IT READS IS OF BULK AT MOST 1048576: true; the input reads as it did. -/
def fnExactIsCentreUptoRow : OpenClaim := { program := "ytiplbfpkfhlhcaa", sum := "ef52a05f4b9d9cd8e485342668fd8bf4c0518ed5608e0a03a68e76e5458562d5", func := "loop.example/g03014/laws.FnExactIsCentre", spec := "fnExactIsCentre", unfollowed := true, recurses := true, apart := false, narrowed := true }
def FnExactIsCentreUptoSaid : Prop := fnExactIsCentreUptoRow.holds Try.pinned (OpenSpec.upto fnExactIsCentreSpec)

/-- 'laws.FnExactIsDrained', WHERE WHAT IT READS IS OF BULK AT MOST 1048576: true; the input reads as it did. -/
def fnExactIsDrainedUptoRow : OpenClaim := { program := "ytiplbfpkfhlhcaa", sum := "ef52a05f4b9d9cd8e485342668fd8bf4c0518ed5608e0a03a68e76e5458562d5", func := "loop.example/g03014/laws.FnExactIsDrained", spec := "fnExactIsDrained", unfollowed := true, recurses := true, apart := false, narrowed := true }
def FnExactIsDrainedUptoSaid : Prop := fnExactIsDrainedUptoRow.holds Try.pinned (OpenSpec.upto fnExactIsDrainedSpec)

/-- 'laws.FnExactIsStuck', WHERE WHAT IT READS IS OF BULK AT MOST 1048576: true; the input reads as it did. -/
def fnExactIsStuckUptoRow : OpenClaim := { program := "ytiplbfpkfhlhcaa", sum := "ef52a05f4b9d9cd8e485342668fd8bf4c0518ed5608e0a03a68e76e5458562d5", func := "loop.example/g03014/laws.FnExactIsStuck", spec := "fnExactIsStuck", unfollowed := true, recurses := true, apart := false, narrowed := true }
def FnExactIsStuckUptoSaid : Prop := fnExactIsStuckUptoRow.holds Try.pinned (OpenSpec.upto fnExactIsStuckSpec)

/-- 'laws.FnExactCellsTo', WHERE WHAT IT READS IS OF BULK AT MOST 1048576: true; the input reads as it did. -/
def fnExactCellsToUptoRow : OpenClaim := { program := "ytiplbfpkfhlhcaa", sum := "ef52a05f4b9d9cd8e485342668fd8bf4c0518ed5608e0a03a68e76e5458562d5", func := "loop.example/g03014/laws.FnExactCellsTo", spec := "fnExactCellsTo", unfollowed := true, recurses := true, apart := false, narrowed := true }
def FnExactCellsToUptoSaid : Prop := fnExactCellsToUptoRow.holds Try.pinned (OpenSpec.upto fnExactCellsToSpec)

/-- 'laws.FnExactWhereIs', WHERE WHAT IT READS IS OF BULK AT MOST 1048576: true; the input reads as it did. -/
def fnExactWhereIsUptoRow : OpenClaim := { program := "ytiplbfpkfhlhcaa", sum := "ef52a05f4b9d9cd8e485342668fd8bf4c0518ed5608e0a03a68e76e5458562d5", func := "loop.example/g03014/laws.FnExactWhereIs", spec := "fnExactWhereIs", unfollowed := true, recurses := true, apart := false, narrowed := true }
def FnExactWhereIsUptoSaid : Prop := fnExactWhereIsUptoRow.holds Try.pinned (OpenSpec.upto fnExactWhereIsSpec)

/-- 'laws.FnExactItemsIn', WHERE WHAT IT READS IS OF BULK AT MOST 1048576: true; the input reads as it did. -/
def fnExactItemsInUptoRow : OpenClaim := { program := "ytiplbfpkfhlhcaa", sum := "ef52a05f4b9d9cd8e485342668fd8bf4c0518ed5608e0a03a68e76e5458562d5", func := "loop.example/g03014/laws.FnExactItemsIn", spec := "fnExactItemsIn", unfollowed := true, recurses := true, apart := false, narrowed := true }
def FnExactItemsInUptoSaid : Prop := fnExactItemsInUptoRow.holds Try.pinned (OpenSpec.upto fnExactItemsInSpec)

/-- 'laws.FnExactNewCentre', WHERE WHAT IT READS IS OF BULK AT MOST 1048576: true; the input reads as it did. -/
def fnExactNewCentreUptoRow : OpenClaim := { program := "ytiplbfpkfhlhcaa", sum := "ef52a05f4b9d9cd8e485342668fd8bf4c0518ed5608e0a03a68e76e5458562d5", func := "loop.example/g03014/laws.FnExactNewCentre", spec := "fnExactNewCentre", unfollowed := true, recurses := true, apart := false, narrowed := true }
def FnExactNewCentreUptoSaid : Prop := fnExactNewCentreUptoRow.holds Try.pinned (OpenSpec.upto fnExactNewCentreSpec)

/-- 'laws.FnExactSetPlan', WHERE WHAT IT READS IS OF BULK AT MOST 1048576: true; the input reads as it did. -/
def fnExactSetPlanUptoRow : OpenClaim := { program := "ytiplbfpkfhlhcaa", sum := "ef52a05f4b9d9cd8e485342668fd8bf4c0518ed5608e0a03a68e76e5458562d5", func := "loop.example/g03014/laws.FnExactSetPlan", spec := "fnExactSetPlan", unfollowed := true, recurses := true, apart := false, narrowed := true }
def FnExactSetPlanUptoSaid : Prop := fnExactSetPlanUptoRow.holds Try.pinned (OpenSpec.upto fnExactSetPlanSpec)

/-- 'laws.FnExactClearChute', WHERE WHAT IT READS IS OF BULK AT MOST 1048576: true; the input reads as it did. -/
def fnExactClearChuteUptoRow : OpenClaim := { program := "ytiplbfpkfhlhcaa", sum := "ef52a05f4b9d9cd8e485342668fd8bf4c0518ed5608e0a03a68e76e5458562d5", func := "loop.example/g03014/laws.FnExactClearChute", spec := "fnExactClearChute", unfollowed := true, recurses := true, apart := false, narrowed := true }
def FnExactClearChuteUptoSaid : Prop := fnExactClearChuteUptoRow.holds Try.pinned (OpenSpec.upto fnExactClearChuteSpec)

/-- 'laws.FnExactFeedCentre', WHERE WHAT IT READS IS OF BULK AT MOST 1048576: true; the input reads as it did. -/
def fnExactFeedCentreUptoRow : OpenClaim := { program := "ytiplbfpkfhlhcaa", sum := "ef52a05f4b9d9cd8e485342668fd8bf4c0518ed5608e0a03a68e76e5458562d5", func := "loop.example/g03014/laws.FnExactFeedCentre", spec := "fnExactFeedCentre", unfollowed := true, recurses := true, apart := false, narrowed := true }
def FnExactFeedCentreUptoSaid : Prop := fnExactFeedCentreUptoRow.holds Try.pinned (OpenSpec.upto fnExactFeedCentreSpec)

/-- 'laws.FnExactRunCentre', WHERE WHAT IT READS IS OF BULK AT MOST 1048576: true; the input reads as it did. -/
def fnExactRunCentreUptoRow : OpenClaim := { program := "ytiplbfpkfhlhcaa", sum := "ef52a05f4b9d9cd8e485342668fd8bf4c0518ed5608e0a03a68e76e5458562d5", func := "loop.example/g03014/laws.FnExactRunCentre", spec := "fnExactRunCentre", unfollowed := true, recurses := true, apart := false, narrowed := true }
def FnExactRunCentreUptoSaid : Prop := fnExactRunCentreUptoRow.holds Try.pinned (OpenSpec.upto fnExactRunCentreSpec)

/-- 'laws.FnExactTickCentre', WHERE WHAT IT READS IS OF BULK AT MOST 1048576: true; the input reads as it did. -/
def fnExactTickCentreUptoRow : OpenClaim := { program := "ytiplbfpkfhlhcaa", sum := "ef52a05f4b9d9cd8e485342668fd8bf4c0518ed5608e0a03a68e76e5458562d5", func := "loop.example/g03014/laws.FnExactTickCentre", spec := "fnExactTickCentre", unfollowed := true, recurses := true, apart := false, narrowed := true }
def FnExactTickCentreUptoSaid : Prop := fnExactTickCentreUptoRow.holds Try.pinned (OpenSpec.upto fnExactTickCentreSpec)

/-- 'laws.FnExactTicksToDrain', WHERE WHAT IT READS IS OF BULK AT MOST 1048576: true; the input reads as it did. -/
def fnExactTicksToDrainUptoRow : OpenClaim := { program := "ytiplbfpkfhlhcaa", sum := "ef52a05f4b9d9cd8e485342668fd8bf4c0518ed5608e0a03a68e76e5458562d5", func := "loop.example/g03014/laws.FnExactTicksToDrain", spec := "fnExactTicksToDrain", unfollowed := true, recurses := true, apart := false, narrowed := true }
def FnExactTicksToDrainUptoSaid : Prop := fnExactTicksToDrainUptoRow.holds Try.pinned (OpenSpec.upto fnExactTicksToDrainSpec)

/-- 'laws.FnCells', WHERE WHAT IT READS IS OF BULK AT MOST 1048576: true; the input reads as it did. -/
def fnCellsUptoRow : OpenClaim := { program := "ytiplbfpkfhlhcaa", sum := "ef52a05f4b9d9cd8e485342668fd8bf4c0518ed5608e0a03a68e76e5458562d5", func := "loop.example/g03014/laws.FnCells", spec := "fnCells", unfollowed := true, recurses := true, apart := false, narrowed := true }
def FnCellsUptoSaid : Prop := fnCellsUptoRow.holds Try.pinned (OpenSpec.upto fnCellsSpec)

/-- 'laws.FnBeltRight', WHERE WHAT IT READS IS OF BULK AT MOST 1048576: true; the input reads as it did. -/
def fnBeltRightUptoRow : OpenClaim := { program := "ytiplbfpkfhlhcaa", sum := "ef52a05f4b9d9cd8e485342668fd8bf4c0518ed5608e0a03a68e76e5458562d5", func := "loop.example/g03014/laws.FnBeltRight", spec := "fnBeltRight", unfollowed := true, recurses := true, apart := false, narrowed := true }
def FnBeltRightUptoSaid : Prop := fnBeltRightUptoRow.holds Try.pinned (OpenSpec.upto fnBeltRightSpec)

/-- 'laws.FnBeltHalves', WHERE WHAT IT READS IS OF BULK AT MOST 1048576: true; the input reads as it did. -/
def fnBeltHalvesUptoRow : OpenClaim := { program := "ytiplbfpkfhlhcaa", sum := "ef52a05f4b9d9cd8e485342668fd8bf4c0518ed5608e0a03a68e76e5458562d5", func := "loop.example/g03014/laws.FnBeltHalves", spec := "fnBeltHalves", unfollowed := true, recurses := true, apart := false, narrowed := true }
def FnBeltHalvesUptoSaid : Prop := fnBeltHalvesUptoRow.holds Try.pinned (OpenSpec.upto fnBeltHalvesSpec)

/-- 'laws.FnBeltStuck', WHERE WHAT IT READS IS OF BULK AT MOST 1048576: true; the input reads as it did. -/
def fnBeltStuckUptoRow : OpenClaim := { program := "ytiplbfpkfhlhcaa", sum := "ef52a05f4b9d9cd8e485342668fd8bf4c0518ed5608e0a03a68e76e5458562d5", func := "loop.example/g03014/laws.FnBeltStuck", spec := "fnBeltStuck", unfollowed := true, recurses := true, apart := false, narrowed := true }
def FnBeltStuckUptoSaid : Prop := fnBeltStuckUptoRow.holds Try.pinned (OpenSpec.upto fnBeltStuckSpec)

/-- 'laws.FnBeltDrains', WHERE WHAT IT READS IS OF BULK AT MOST 1048576: true; the input reads as it did. -/
def fnBeltDrainsUptoRow : OpenClaim := { program := "ytiplbfpkfhlhcaa", sum := "ef52a05f4b9d9cd8e485342668fd8bf4c0518ed5608e0a03a68e76e5458562d5", func := "loop.example/g03014/laws.FnBeltDrains", spec := "fnBeltDrains", unfollowed := true, recurses := true, apart := false, narrowed := true }
def FnBeltDrainsUptoSaid : Prop := fnBeltDrainsUptoRow.holds Try.pinned (OpenSpec.upto fnBeltDrainsSpec)

end Rows
end Go.Proofs.Ytiplbfpkfhlhcaa
