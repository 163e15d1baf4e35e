/-
  No cell of these rows narrows 'for every input' (looked for: loops, veiled, ifaces, maps, wideKeys, modest, calm, conditions, laid).
  DERIVED. THE GIVEN ROWS OF THIS SEAT. 2 by the template 'for every input the law returns true; each argument reads behind the call as it read before'; 0 by the template 'total and deterministic' (their statements: YtgidonhihgcadaaTotals.lean).
  GIVEN WITH THE SEED: the statements are not yours to turn. If you find one false, say at which input.
  Laid BY PROGRAM, IN A SANDBOX (cutbox-rows.mjs): the forced cells as the released guide's own fill.sh prints them over the translation 837f2a05722efbc3… (all of the seat's roots in one cut). By AI agents, Wed Nov 11 2026. No macro, syntax, notation, axiom, sorry.
-/
import Derived.Test.YtgidonhihgcadaaChecked
import GoSem.Claim
import GoSem.ClaimJoined
import GoSem.ClaimMapViews
import Derived.JoinedTies
import Derived.KernelRfl
namespace Go.Proofs.Ytgidonhihgcadaa
/- THE CELL 'sum', in the pinned program and in every row, IS THE sha256 OF THE DUMP (.gsa) THAT YtgidonhihgcadaaProg.lean LOADS. Nothing in Lean hashes anything: it is a label: what it is worth is what the hold of that sum in a sandbox is worth. -/
noncomputable def Try.pinned : Pinned := { name := "ytgidonhihgcadaa", sum := "837f2a05722efbc373243beb7c82c881395ef23d228a2b26edb922c72b4578a1", checked := Try.checked }
namespace Rows
def none {H : Type} : Left H := { results := [], args := [] }

/-- 'laws.FnExactCountState': WHATEVER THE INPUT: true; the input reads as it did. -/
def fnExactCountStateSpec : ChangeSpec := { name := "fnExactCountState", fn := fun _ => fun
  | [d1, d2] => { results := [.lit (.bool true)], args := [d1, d2] }
  | _ => none }
def fnExactCountStateRow : OpenClaim := { program := "ytgidonhihgcadaa", sum := "837f2a05722efbc373243beb7c82c881395ef23d228a2b26edb922c72b4578a1", func := "loop.example/g03014/laws.FnExactCountState", spec := "fnExactCountState", apart := false }
def FnExactCountStateSaid : Prop := fnExactCountStateRow.holds Try.pinned (OpenSpec.ofChange fnExactCountStateSpec)

/-- ITS FALSE NEIGHBOUR: 'it returns false'. Refute it at one input. -/
def fnExactCountStateWrong : ChangeSpec := { name := "fnExactCountState", fn := fun _ => fun
  | [d1, d2] => { results := [.lit (.bool false)], args := [d1, d2] }
  | _ => none }
def FnExactCountStateWrongFalsely : Prop := fnExactCountStateRow.holds Try.pinned (OpenSpec.ofChange fnExactCountStateWrong)

/-- 'laws.FnExactSameWorlds': WHATEVER THE INPUT: true; the input reads as it did. -/
def fnExactSameWorldsSpec : ChangeSpec := { name := "fnExactSameWorlds", fn := fun _ => fun
  | [d1, d2] => { results := [.lit (.bool true)], args := [d1, d2] }
  | _ => none }
def fnExactSameWorldsRow : OpenClaim := { program := "ytgidonhihgcadaa", sum := "837f2a05722efbc373243beb7c82c881395ef23d228a2b26edb922c72b4578a1", func := "loop.example/g03014/laws.FnExactSameWorlds", spec := "fnExactSameWorlds", unfollowed := true, recurses := true, apart := false }
def FnExactSameWorldsSaid : Prop := fnExactSameWorldsRow.holds Try.pinned (OpenSpec.ofChange fnExactSameWorldsSpec)

/-- ITS FALSE NEIGHBOUR: 'it returns false'. Refute it at one input. -/
def fnExactSameWorldsWrong : ChangeSpec := { name := "fnExactSameWorlds", fn := fun _ => fun
  | [d1, d2] => { results := [.lit (.bool false)], args := [d1, d2] }
  | _ => none }
def FnExactSameWorldsWrongFalsely : Prop := fnExactSameWorldsRow.holds Try.pinned (OpenSpec.ofChange fnExactSameWorldsWrong)

/- THE SECOND FORM. 'bulk': how many values and letters a reading holds, each counted each time it is reached (what is shared counts as often as it is met; a slice's spare places count too). A statement '..UptoSaid' is the law's where the arguments, and the package variables that the reading takes, are together of bulk at most 1048576: NARROWER than '..Said'. Prove '..Said' where nothing that the law and all that it calls make is longer than what came in: it says more and counts as full. Else prove '..UptoSaid'. A law counts once. -/
mutual
def uptoBulk {H : Type} : DataW H → Nat
  | .lit (.string bytes) => bytes.length + 1
  | .lit _ => 1
  | .nil => 1
  | .ptr d => uptoBulk d + 1
  | .slice elems spare => uptoBulkAll elems + uptoBulkAll spare + 1
  | .agg parts => uptoBulkAll parts + 1
  | .iface _ d => uptoBulk d + 1
  | .map entries => uptoBulkEntries entries + 1
  | .held _ => 1
def uptoBulkAll {H : Type} : List (DataW H) → Nat
  | [] => 0
  | d :: r => uptoBulk d + uptoBulkAll r
def uptoBulkEntries {H : Type} : List (Lit × DataW H) → Nat
  | [] => 0
  | x :: r => uptoBulkEntry x + uptoBulkEntries r
def uptoBulkEntry {H : Type} : Lit × DataW H → Nat
  | (.string bytes, d) => bytes.length + uptoBulk d + 1
  | (_, d) => uptoBulk d + 1
 end
def uptoSmall : (H : Type) → List (DataW H) → Bool := fun _ ds => decide (uptoBulkAll ds ≤ 1048576)
def OpenSpec.upto (s : _root_.Go.ChangeSpec) : _root_.Go.OpenSpec := { _root_.Go.OpenSpec.ofChange s with cond := some uptoSmall }

/-- 'laws.FnExactCountState', WHERE WHAT IT READS IS OF BULK AT MOST 1048576: true; the input reads as it did. -/
def fnExactCountStateUptoRow : OpenClaim := { program := "ytgidonhihgcadaa", sum := "837f2a05722efbc373243beb7c82c881395ef23d228a2b26edb922c72b4578a1", func := "loop.example/g03014/laws.FnExactCountState", spec := "fnExactCountState", apart := false, narrowed := true }
def FnExactCountStateUptoSaid : Prop := fnExactCountStateUptoRow.holds Try.pinned (OpenSpec.upto fnExactCountStateSpec)

/-- 'laws.FnExactSameWorlds', WHERE WHAT IT READS IS OF BULK AT MOST 1048576: true; the input reads as it did. -/
def fnExactSameWorldsUptoRow : OpenClaim := { program := "ytgidonhihgcadaa", sum := "837f2a05722efbc373243beb7c82c881395ef23d228a2b26edb922c72b4578a1", func := "loop.example/g03014/laws.FnExactSameWorlds", spec := "fnExactSameWorlds", unfollowed := true, recurses := true, apart := false, narrowed := true }
def FnExactSameWorldsUptoSaid : Prop := fnExactSameWorldsUptoRow.holds Try.pinned (OpenSpec.upto fnExactSameWorldsSpec)

end Rows
end Go.Proofs.Ytgidonhihgcadaa
