/-
  No cell of these rows narrows 'for every input' (looked for: loops, veiled, ifaces, maps, wideKeys, modest, calm, conditions, laid).
  DERIVED. THE GIVEN ROWS OF THIS SEAT. 4 by the template 'for every input the law returns true; each argument reads behind the call as it read before'; 0 by the template 'total and deterministic' (their statements: YtadcmngooobeiabGreatTotals.lean).
  GIVEN WITH THE SEED: the statements are not yours to turn. If you find one false, say at which input.
  Laid BY PROGRAM, IN A SANDBOX (cutbox-rows.mjs): the forced cells as the released guide's own fill.sh prints them over the translation c19cf63be06fd26c… (all of the seat's roots in one cut). By AI agents, Wed Nov 11 2026. No macro, syntax, notation, axiom, sorry.
-/
import Derived.Test.YtadcmngooobeiabGreatChecked
import GoSem.Claim
import GoSem.ClaimJoined
import GoSem.ClaimMapViews
import Derived.JoinedTies
import Derived.KernelRfl
namespace Go.Proofs.YtadcmngooobeiabGreat
/- THE CELL 'sum', in the pinned program and in every row, IS THE sha256 OF THE DUMP (.gsa) THAT YtadcmngooobeiabGreatProg.lean LOADS. Nothing in Lean hashes anything: it is a label: what it is worth is what the hold of that sum in a sandbox is worth. -/
noncomputable def Tryz.pinned : Pinned := { name := "ytadcmngooobeiabgreat", sum := "c19cf63be06fd26c3b6911037dcc728d4421f32f60fc0a67996f766c0c96ccd9", checked := Tryz.checked }
namespace Rows
def none {H : Type} : Left H := { results := [], args := [] }

/-- 'laws.FnExactWaitingAt': WHATEVER THE INPUT: true; the input reads as it did. -/
def fnExactWaitingAtSpec : ChangeSpec := { name := "fnExactWaitingAt", fn := fun _ => fun
  | [d1, d2] => { results := [.lit (.bool true)], args := [d1, d2] }
  | _ => none }
def fnExactWaitingAtRow : OpenClaim := { program := "ytadcmngooobeiabgreat", sum := "c19cf63be06fd26c3b6911037dcc728d4421f32f60fc0a67996f766c0c96ccd9", func := "loop.example/g03014/laws.FnExactWaitingAt", spec := "fnExactWaitingAt", unfollowed := true, recurses := true, plainKeys := false, apart := false }
def FnExactWaitingAtSaid : Prop := fnExactWaitingAtRow.holds Tryz.pinned (OpenSpec.ofChange fnExactWaitingAtSpec)

/-- ITS FALSE NEIGHBOUR: 'it returns false'. Refute it at one input. -/
def fnExactWaitingAtWrong : ChangeSpec := { name := "fnExactWaitingAt", fn := fun _ => fun
  | [d1, d2] => { results := [.lit (.bool false)], args := [d1, d2] }
  | _ => none }
def FnExactWaitingAtWrongFalsely : Prop := fnExactWaitingAtRow.holds Tryz.pinned (OpenSpec.ofChange fnExactWaitingAtWrong)

/-- 'laws.FnExactRidingOn': WHATEVER THE INPUT: true; the input reads as it did. -/
def fnExactRidingOnSpec : ChangeSpec := { name := "fnExactRidingOn", fn := fun _ => fun
  | [d1, d2] => { results := [.lit (.bool true)], args := [d1, d2] }
  | _ => none }
def fnExactRidingOnRow : OpenClaim := { program := "ytadcmngooobeiabgreat", sum := "c19cf63be06fd26c3b6911037dcc728d4421f32f60fc0a67996f766c0c96ccd9", func := "loop.example/g03014/laws.FnExactRidingOn", spec := "fnExactRidingOn", unfollowed := true, recurses := true, plainKeys := false, apart := false }
def FnExactRidingOnSaid : Prop := fnExactRidingOnRow.holds Tryz.pinned (OpenSpec.ofChange fnExactRidingOnSpec)

/-- ITS FALSE NEIGHBOUR: 'it returns false'. Refute it at one input. -/
def fnExactRidingOnWrong : ChangeSpec := { name := "fnExactRidingOn", fn := fun _ => fun
  | [d1, d2] => { results := [.lit (.bool false)], args := [d1, d2] }
  | _ => none }
def FnExactRidingOnWrongFalsely : Prop := fnExactRidingOnRow.holds Tryz.pinned (OpenSpec.ofChange fnExactRidingOnWrong)

/-- 'laws.FnExactPlannedEnd': WHATEVER THE INPUT: true; the input reads as it did. -/
def fnExactPlannedEndSpec : ChangeSpec := { name := "fnExactPlannedEnd", fn := fun _ => fun
  | [d1, d2] => { results := [.lit (.bool true)], args := [d1, d2] }
  | _ => none }
def fnExactPlannedEndRow : OpenClaim := { program := "ytadcmngooobeiabgreat", sum := "c19cf63be06fd26c3b6911037dcc728d4421f32f60fc0a67996f766c0c96ccd9", func := "loop.example/g03014/laws.FnExactPlannedEnd", spec := "fnExactPlannedEnd", recurses := true, plainKeys := false, apart := false }
def FnExactPlannedEndSaid : Prop := fnExactPlannedEndRow.holds Tryz.pinned (OpenSpec.ofChange fnExactPlannedEndSpec)

/-- ITS FALSE NEIGHBOUR: 'it returns false'. Refute it at one input. -/
def fnExactPlannedEndWrong : ChangeSpec := { name := "fnExactPlannedEnd", fn := fun _ => fun
  | [d1, d2] => { results := [.lit (.bool false)], args := [d1, d2] }
  | _ => none }
def FnExactPlannedEndWrongFalsely : Prop := fnExactPlannedEndRow.holds Tryz.pinned (OpenSpec.ofChange fnExactPlannedEndWrong)

/-- 'laws.FnExactLateOrders': WHATEVER THE INPUT: true; the input reads as it did. -/
def fnExactLateOrdersSpec : ChangeSpec := { name := "fnExactLateOrders", fn := fun _ => fun
  | [d] => { results := [.lit (.bool true)], args := [d] }
  | _ => none }
def fnExactLateOrdersRow : OpenClaim := { program := "ytadcmngooobeiabgreat", sum := "c19cf63be06fd26c3b6911037dcc728d4421f32f60fc0a67996f766c0c96ccd9", func := "loop.example/g03014/laws.FnExactLateOrders", spec := "fnExactLateOrders", unfollowed := true, recurses := true, plainKeys := false, apart := false }
def FnExactLateOrdersSaid : Prop := fnExactLateOrdersRow.holds Tryz.pinned (OpenSpec.ofChange fnExactLateOrdersSpec)

/-- ITS FALSE NEIGHBOUR: 'it returns false'. Refute it at one input. -/
def fnExactLateOrdersWrong : ChangeSpec := { name := "fnExactLateOrders", fn := fun _ => fun
  | [d] => { results := [.lit (.bool false)], args := [d] }
  | _ => none }
def FnExactLateOrdersWrongFalsely : Prop := fnExactLateOrdersRow.holds Tryz.pinned (OpenSpec.ofChange fnExactLateOrdersWrong)

/- THE SECOND FORM. 'bulk': how many values and letters a reading holds, each counted each time it is reached (what is shared counts as often as it is met; a slice's spare places count too). A statement '..UptoSaid' is the law's where the arguments, and the package variables that the reading takes, are together of bulk at most 1048576: NARROWER than '..Said'. Prove '..Said' where nothing that the law and all that it calls make is longer than what came in: it says more and counts as full. Else prove '..UptoSaid'. A law counts once. -/
mutual
def uptoBulk {H : Type} : DataW H → Nat
  | .lit (.string bytes) => bytes.length + 1
  | .lit _ => 1
  | .nil => 1
  | .ptr d => uptoBulk d + 1
  | .slice elems spare => uptoBulkAll elems + uptoBulkAll spare + 1
  | .agg parts => uptoBulkAll parts + 1
  | .iface _ d => uptoBulk d + 1
  | .map entries => uptoBulkEntries entries + 1
  | .held _ => 1
def uptoBulkAll {H : Type} : List (DataW H) → Nat
  | [] => 0
  | d :: r => uptoBulk d + uptoBulkAll r
def uptoBulkEntries {H : Type} : List (Lit × DataW H) → Nat
  | [] => 0
  | x :: r => uptoBulkEntry x + uptoBulkEntries r
def uptoBulkEntry {H : Type} : Lit × DataW H → Nat
  | (.string bytes, d) => bytes.length + uptoBulk d + 1
  | (_, d) => uptoBulk d + 1
 end
def uptoSmall : (H : Type) → List (DataW H) → Bool := fun _ ds => decide (uptoBulkAll ds ≤ 1048576)
def OpenSpec.upto (s : _root_.Go.ChangeSpec) : _root_.Go.OpenSpec := { _root_.Go.OpenSpec.ofChange s with cond := some uptoSmall }

/-- 'laws.FnExactWaitingAt', WHERE WHAT IT READS IS OF BULK AT MOST 1048576: true; the input reads as it did. -/
def fnExactWaitingAtUptoRow : OpenClaim := { program := "ytadcmngooobeiabgreat", sum := "c19cf63be06fd26c3b6911037dcc728d4421f32f60fc0a67996f766c0c96ccd9", func := "loop.example/g03014/laws.FnExactWaitingAt", spec := "fnExactWaitingAt", unfollowed := true, recurses := true, plainKeys := false, apart := false, narrowed := true }
def FnExactWaitingAtUptoSaid : Prop := fnExactWaitingAtUptoRow.holds Tryz.pinned (OpenSpec.upto fnExactWaitingAtSpec)

/-- 'laws.FnExactRidingOn', WHERE WHAT IT READS IS OF BULK AT MOST 1048576: true; the input reads as it did. -/
def fnExactRidingOnUptoRow : OpenClaim := { program := "ytadcmngooobeiabgreat", sum := "c19cf63be06fd26c3b6911037dcc728d4421f32f60fc0a67996f766c0c96ccd9", func := "loop.example/g03014/laws.FnExactRidingOn", spec := "fnExactRidingOn", unfollowed := true, recurses := true, plainKeys := false, apart := false, narrowed := true }
def FnExactRidingOnUptoSaid : Prop := fnExactRidingOnUptoRow.holds Tryz.pinned (OpenSpec.upto fnExactRidingOnSpec)

/-- 'laws.FnExactPlannedEnd', WHERE WHAT IT READS IS OF BULK AT MOST 1048576: true; the input reads as it did. -/
def fnExactPlannedEndUptoRow : OpenClaim := { program := "ytadcmngooobeiabgreat", sum := "c19cf63be06fd26c3b6911037dcc728d4421f32f60fc0a67996f766c0c96ccd9", func := "loop.example/g03014/laws.FnExactPlannedEnd", spec := "fnExactPlannedEnd", recurses := true, plainKeys := false, apart := false, narrowed := true }
def FnExactPlannedEndUptoSaid : Prop := fnExactPlannedEndUptoRow.holds Tryz.pinned (OpenSpec.upto fnExactPlannedEndSpec)

/-- 'laws.FnExactLateOrders', WHERE WHAT IT READS IS OF BULK AT MOST 1048576: true; the input reads as it did. -/
def fnExactLateOrdersUptoRow : OpenClaim := { program := "ytadcmngooobeiabgreat", sum := "c19cf63be06fd26c3b6911037dcc728d4421f32f60fc0a67996f766c0c96ccd9", func := "loop.example/g03014/laws.FnExactLateOrders", spec := "fnExactLateOrders", unfollowed := true, recurses := true, plainKeys := false, apart := false, narrowed := true }
def FnExactLateOrdersUptoSaid : Prop := fnExactLateOrdersUptoRow.holds Tryz.pinned (OpenSpec.upto fnExactLateOrdersSpec)

end Rows
end Go.Proofs.YtadcmngooobeiabGreat
