/-
  No cell of these rows narrows 'for every input' (looked for: loops, veiled, ifaces, maps, wideKeys, modest, calm, conditions, laid).
  DERIVED. THE GIVEN ROWS OF THIS SEAT. 15 by the template 'for every input the law returns true; each argument reads behind the call as it read before'; 0 by the template 'total and deterministic' (their statements: YtadcmngooobeiaaTotals.lean).
  GIVEN WITH THE SEED: the statements are not yours to turn. If you find one false, say at which input.
  Laid BY PROGRAM, IN A SANDBOX (cutbox-rows.mjs): the forced cells as the released guide's own fill.sh prints them over the translation ba9b6b38e3578a04… (all of the seat's roots in one cut). By AI agents, Wed Nov 11 2026. No macro, syntax, notation, axiom, sorry.
-/
import Derived.Test.YtadcmngooobeiaaChecked
import GoSem.Claim
import GoSem.ClaimJoined
import GoSem.ClaimMapViews
import Derived.JoinedTies
import Derived.KernelRfl
namespace Go.Proofs.Ytadcmngooobeiaa
/- THE CELL 'sum', in the pinned program and in every row, IS THE sha256 OF THE DUMP (.gsa) THAT YtadcmngooobeiaaProg.lean LOADS. Nothing in Lean hashes anything: it is a label: what it is worth is what the hold of that sum in a sandbox is worth. -/
noncomputable def Try.pinned : Pinned := { name := "ytadcmngooobeiaa", sum := "ba9b6b38e3578a04254770143906dc5d1b9bf6066c3966e730cdd61c433e1f08", checked := Try.checked }
namespace Rows
def none {H : Type} : Left H := { results := [], args := [] }

/-- 'laws.FnExactIsLine': WHATEVER THE INPUT: true; the input reads as it did. -/
def fnExactIsLineSpec : ChangeSpec := { name := "fnExactIsLine", fn := fun _ => fun
  | [d] => { results := [.lit (.bool true)], args := [d] }
  | _ => none }
def fnExactIsLineRow : OpenClaim := { program := "ytadcmngooobeiaa", sum := "ba9b6b38e3578a04254770143906dc5d1b9bf6066c3966e730cdd61c433e1f08", func := "loop.example/g03014/laws.FnExactIsLine", spec := "fnExactIsLine", apart := false }
def FnExactIsLineSaid : Prop := fnExactIsLineRow.holds Try.pinned (OpenSpec.ofChange fnExactIsLineSpec)

/-- ITS FALSE NEIGHBOUR: 'it returns false'. Refute it at one input. -/
def fnExactIsLineWrong : ChangeSpec := { name := "fnExactIsLine", fn := fun _ => fun
  | [d] => { results := [.lit (.bool false)], args := [d] }
  | _ => none }
def FnExactIsLineWrongFalsely : Prop := fnExactIsLineRow.holds Try.pinned (OpenSpec.ofChange fnExactIsLineWrong)

/-- 'laws.FnExactSumOf': WHATEVER THE INPUT: true; the input reads as it did. -/
def fnExactSumOfSpec : ChangeSpec := { name := "fnExactSumOf", fn := fun _ => fun
  | [d1, d2, d3] => { results := [.lit (.bool true)], args := [d1, d2, d3] }
  | _ => none }
def fnExactSumOfRow : OpenClaim := { program := "ytadcmngooobeiaa", sum := "ba9b6b38e3578a04254770143906dc5d1b9bf6066c3966e730cdd61c433e1f08", func := "loop.example/g03014/laws.FnExactSumOf", spec := "fnExactSumOf", unfollowed := true, recurses := true, apart := false }
def FnExactSumOfSaid : Prop := fnExactSumOfRow.holds Try.pinned (OpenSpec.ofChange fnExactSumOfSpec)

/-- ITS FALSE NEIGHBOUR: 'it returns false'. Refute it at one input. -/
def fnExactSumOfWrong : ChangeSpec := { name := "fnExactSumOf", fn := fun _ => fun
  | [d1, d2, d3] => { results := [.lit (.bool false)], args := [d1, d2, d3] }
  | _ => none }
def FnExactSumOfWrongFalsely : Prop := fnExactSumOfRow.holds Try.pinned (OpenSpec.ofChange fnExactSumOfWrong)

/-- 'laws.FnExactAreLines': WHATEVER THE INPUT: true; the input reads as it did. -/
def fnExactAreLinesSpec : ChangeSpec := { name := "fnExactAreLines", fn := fun _ => fun
  | [d] => { results := [.lit (.bool true)], args := [d] }
  | _ => none }
def fnExactAreLinesRow : OpenClaim := { program := "ytadcmngooobeiaa", sum := "ba9b6b38e3578a04254770143906dc5d1b9bf6066c3966e730cdd61c433e1f08", func := "loop.example/g03014/laws.FnExactAreLines", spec := "fnExactAreLines", unfollowed := true, recurses := true, apart := false }
def FnExactAreLinesSaid : Prop := fnExactAreLinesRow.holds Try.pinned (OpenSpec.ofChange fnExactAreLinesSpec)

/-- ITS FALSE NEIGHBOUR: 'it returns false'. Refute it at one input. -/
def fnExactAreLinesWrong : ChangeSpec := { name := "fnExactAreLines", fn := fun _ => fun
  | [d] => { results := [.lit (.bool false)], args := [d] }
  | _ => none }
def FnExactAreLinesWrongFalsely : Prop := fnExactAreLinesRow.holds Try.pinned (OpenSpec.ofChange fnExactAreLinesWrong)

/-- 'laws.FnExactChargeOrder': WHATEVER THE INPUT: true; the input reads as it did. -/
def fnExactChargeOrderSpec : ChangeSpec := { name := "fnExactChargeOrder", fn := fun _ => fun
  | [d1, d2, d3, d4] => { results := [.lit (.bool true)], args := [d1, d2, d3, d4] }
  | _ => none }
def fnExactChargeOrderRow : OpenClaim := { program := "ytadcmngooobeiaa", sum := "ba9b6b38e3578a04254770143906dc5d1b9bf6066c3966e730cdd61c433e1f08", func := "loop.example/g03014/laws.FnExactChargeOrder", spec := "fnExactChargeOrder", unfollowed := true, recurses := true, apart := false }
def FnExactChargeOrderSaid : Prop := fnExactChargeOrderRow.holds Try.pinned (OpenSpec.ofChange fnExactChargeOrderSpec)

/-- ITS FALSE NEIGHBOUR: 'it returns false'. Refute it at one input. -/
def fnExactChargeOrderWrong : ChangeSpec := { name := "fnExactChargeOrder", fn := fun _ => fun
  | [d1, d2, d3, d4] => { results := [.lit (.bool false)], args := [d1, d2, d3, d4] }
  | _ => none }
def FnExactChargeOrderWrongFalsely : Prop := fnExactChargeOrderRow.holds Try.pinned (OpenSpec.ofChange fnExactChargeOrderWrong)

/-- 'laws.FnExactPayOrder': WHATEVER THE INPUT: true; the input reads as it did. -/
def fnExactPayOrderSpec : ChangeSpec := { name := "fnExactPayOrder", fn := fun _ => fun
  | [d1, d2, d3, d4] => { results := [.lit (.bool true)], args := [d1, d2, d3, d4] }
  | _ => none }
def fnExactPayOrderRow : OpenClaim := { program := "ytadcmngooobeiaa", sum := "ba9b6b38e3578a04254770143906dc5d1b9bf6066c3966e730cdd61c433e1f08", func := "loop.example/g03014/laws.FnExactPayOrder", spec := "fnExactPayOrder", unfollowed := true, recurses := true, apart := false }
def FnExactPayOrderSaid : Prop := fnExactPayOrderRow.holds Try.pinned (OpenSpec.ofChange fnExactPayOrderSpec)

/-- ITS FALSE NEIGHBOUR: 'it returns false'. Refute it at one input. -/
def fnExactPayOrderWrong : ChangeSpec := { name := "fnExactPayOrder", fn := fun _ => fun
  | [d1, d2, d3, d4] => { results := [.lit (.bool false)], args := [d1, d2, d3, d4] }
  | _ => none }
def FnExactPayOrderWrongFalsely : Prop := fnExactPayOrderRow.holds Try.pinned (OpenSpec.ofChange fnExactPayOrderWrong)

/-- 'laws.FnExactOwedFor': WHATEVER THE INPUT: true; the input reads as it did. -/
def fnExactOwedForSpec : ChangeSpec := { name := "fnExactOwedFor", fn := fun _ => fun
  | [d1, d2] => { results := [.lit (.bool true)], args := [d1, d2] }
  | _ => none }
def fnExactOwedForRow : OpenClaim := { program := "ytadcmngooobeiaa", sum := "ba9b6b38e3578a04254770143906dc5d1b9bf6066c3966e730cdd61c433e1f08", func := "loop.example/g03014/laws.FnExactOwedFor", spec := "fnExactOwedFor", unfollowed := true, recurses := true, apart := false }
def FnExactOwedForSaid : Prop := fnExactOwedForRow.holds Try.pinned (OpenSpec.ofChange fnExactOwedForSpec)

/-- ITS FALSE NEIGHBOUR: 'it returns false'. Refute it at one input. -/
def fnExactOwedForWrong : ChangeSpec := { name := "fnExactOwedFor", fn := fun _ => fun
  | [d1, d2] => { results := [.lit (.bool false)], args := [d1, d2] }
  | _ => none }
def FnExactOwedForWrongFalsely : Prop := fnExactOwedForRow.holds Try.pinned (OpenSpec.ofChange fnExactOwedForWrong)

/-- 'laws.FnExactArePercents': WHATEVER THE INPUT: true; the input reads as it did. -/
def fnExactArePercentsSpec : ChangeSpec := { name := "fnExactArePercents", fn := fun _ => fun
  | [d] => { results := [.lit (.bool true)], args := [d] }
  | _ => none }
def fnExactArePercentsRow : OpenClaim := { program := "ytadcmngooobeiaa", sum := "ba9b6b38e3578a04254770143906dc5d1b9bf6066c3966e730cdd61c433e1f08", func := "loop.example/g03014/laws.FnExactArePercents", spec := "fnExactArePercents", apart := false }
def FnExactArePercentsSaid : Prop := fnExactArePercentsRow.holds Try.pinned (OpenSpec.ofChange fnExactArePercentsSpec)

/-- ITS FALSE NEIGHBOUR: 'it returns false'. Refute it at one input. -/
def fnExactArePercentsWrong : ChangeSpec := { name := "fnExactArePercents", fn := fun _ => fun
  | [d] => { results := [.lit (.bool false)], args := [d] }
  | _ => none }
def FnExactArePercentsWrongFalsely : Prop := fnExactArePercentsRow.holds Try.pinned (OpenSpec.ofChange fnExactArePercentsWrong)

/-- 'laws.FnExactRefundFor': WHATEVER THE INPUT: true; the input reads as it did. -/
def fnExactRefundForSpec : ChangeSpec := { name := "fnExactRefundFor", fn := fun _ => fun
  | [d1, d2, d3, d4] => { results := [.lit (.bool true)], args := [d1, d2, d3, d4] }
  | _ => none }
def fnExactRefundForRow : OpenClaim := { program := "ytadcmngooobeiaa", sum := "ba9b6b38e3578a04254770143906dc5d1b9bf6066c3966e730cdd61c433e1f08", func := "loop.example/g03014/laws.FnExactRefundFor", spec := "fnExactRefundFor", apart := false }
def FnExactRefundForSaid : Prop := fnExactRefundForRow.holds Try.pinned (OpenSpec.ofChange fnExactRefundForSpec)

/-- ITS FALSE NEIGHBOUR: 'it returns false'. Refute it at one input. -/
def fnExactRefundForWrong : ChangeSpec := { name := "fnExactRefundFor", fn := fun _ => fun
  | [d1, d2, d3, d4] => { results := [.lit (.bool false)], args := [d1, d2, d3, d4] }
  | _ => none }
def FnExactRefundForWrongFalsely : Prop := fnExactRefundForRow.holds Try.pinned (OpenSpec.ofChange fnExactRefundForWrong)

/-- 'laws.FnExactRefundOrder': WHATEVER THE INPUT: true; the input reads as it did. -/
def fnExactRefundOrderSpec : ChangeSpec := { name := "fnExactRefundOrder", fn := fun _ => fun
  | [d1, d2, d3, d4, d5, d6] => { results := [.lit (.bool true)], args := [d1, d2, d3, d4, d5, d6] }
  | _ => none }
def fnExactRefundOrderRow : OpenClaim := { program := "ytadcmngooobeiaa", sum := "ba9b6b38e3578a04254770143906dc5d1b9bf6066c3966e730cdd61c433e1f08", func := "loop.example/g03014/laws.FnExactRefundOrder", spec := "fnExactRefundOrder", unfollowed := true, recurses := true, apart := false }
def FnExactRefundOrderSaid : Prop := fnExactRefundOrderRow.holds Try.pinned (OpenSpec.ofChange fnExactRefundOrderSpec)

/-- ITS FALSE NEIGHBOUR: 'it returns false'. Refute it at one input. -/
def fnExactRefundOrderWrong : ChangeSpec := { name := "fnExactRefundOrder", fn := fun _ => fun
  | [d1, d2, d3, d4, d5, d6] => { results := [.lit (.bool false)], args := [d1, d2, d3, d4, d5, d6] }
  | _ => none }
def FnExactRefundOrderWrongFalsely : Prop := fnExactRefundOrderRow.holds Try.pinned (OpenSpec.ofChange fnExactRefundOrderWrong)

/-- 'laws.FnExactCashOf': WHATEVER THE INPUT: true; the input reads as it did. -/
def fnExactCashOfSpec : ChangeSpec := { name := "fnExactCashOf", fn := fun _ => fun
  | [d] => { results := [.lit (.bool true)], args := [d] }
  | _ => none }
def fnExactCashOfRow : OpenClaim := { program := "ytadcmngooobeiaa", sum := "ba9b6b38e3578a04254770143906dc5d1b9bf6066c3966e730cdd61c433e1f08", func := "loop.example/g03014/laws.FnExactCashOf", spec := "fnExactCashOf", unfollowed := true, recurses := true, apart := false }
def FnExactCashOfSaid : Prop := fnExactCashOfRow.holds Try.pinned (OpenSpec.ofChange fnExactCashOfSpec)

/-- ITS FALSE NEIGHBOUR: 'it returns false'. Refute it at one input. -/
def fnExactCashOfWrong : ChangeSpec := { name := "fnExactCashOf", fn := fun _ => fun
  | [d] => { results := [.lit (.bool false)], args := [d] }
  | _ => none }
def FnExactCashOfWrongFalsely : Prop := fnExactCashOfRow.holds Try.pinned (OpenSpec.ofChange fnExactCashOfWrong)

/-- 'laws.FnExactOpenOrders': WHATEVER THE INPUT: true; the input reads as it did. -/
def fnExactOpenOrdersSpec : ChangeSpec := { name := "fnExactOpenOrders", fn := fun _ => fun
  | [d] => { results := [.lit (.bool true)], args := [d] }
  | _ => none }
def fnExactOpenOrdersRow : OpenClaim := { program := "ytadcmngooobeiaa", sum := "ba9b6b38e3578a04254770143906dc5d1b9bf6066c3966e730cdd61c433e1f08", func := "loop.example/g03014/laws.FnExactOpenOrders", spec := "fnExactOpenOrders", unfollowed := true, recurses := true, apart := false }
def FnExactOpenOrdersSaid : Prop := fnExactOpenOrdersRow.holds Try.pinned (OpenSpec.ofChange fnExactOpenOrdersSpec)

/-- ITS FALSE NEIGHBOUR: 'it returns false'. Refute it at one input. -/
def fnExactOpenOrdersWrong : ChangeSpec := { name := "fnExactOpenOrders", fn := fun _ => fun
  | [d] => { results := [.lit (.bool false)], args := [d] }
  | _ => none }
def FnExactOpenOrdersWrongFalsely : Prop := fnExactOpenOrdersRow.holds Try.pinned (OpenSpec.ofChange fnExactOpenOrdersWrong)

/-- 'laws.FnExactLinesOf': WHATEVER THE INPUT: true; the input reads as it did. -/
def fnExactLinesOfSpec : ChangeSpec := { name := "fnExactLinesOf", fn := fun _ => fun
  | [d1, d2] => { results := [.lit (.bool true)], args := [d1, d2] }
  | _ => none }
def fnExactLinesOfRow : OpenClaim := { program := "ytadcmngooobeiaa", sum := "ba9b6b38e3578a04254770143906dc5d1b9bf6066c3966e730cdd61c433e1f08", func := "loop.example/g03014/laws.FnExactLinesOf", spec := "fnExactLinesOf", apart := false }
def FnExactLinesOfSaid : Prop := fnExactLinesOfRow.holds Try.pinned (OpenSpec.ofChange fnExactLinesOfSpec)

/-- ITS FALSE NEIGHBOUR: 'it returns false'. Refute it at one input. -/
def fnExactLinesOfWrong : ChangeSpec := { name := "fnExactLinesOf", fn := fun _ => fun
  | [d1, d2] => { results := [.lit (.bool false)], args := [d1, d2] }
  | _ => none }
def FnExactLinesOfWrongFalsely : Prop := fnExactLinesOfRow.holds Try.pinned (OpenSpec.ofChange fnExactLinesOfWrong)

/-- 'laws.FnPaid': WHATEVER THE INPUT: true; the input reads as it did. -/
def fnPaidSpec : ChangeSpec := { name := "fnPaid", fn := fun _ => fun
  | [d] => { results := [.lit (.bool true)], args := [d] }
  | _ => none }
def fnPaidRow : OpenClaim := { program := "ytadcmngooobeiaa", sum := "ba9b6b38e3578a04254770143906dc5d1b9bf6066c3966e730cdd61c433e1f08", func := "loop.example/g03014/laws.FnPaid", spec := "fnPaid", unfollowed := true, recurses := true, apart := false }
def FnPaidSaid : Prop := fnPaidRow.holds Try.pinned (OpenSpec.ofChange fnPaidSpec)

/-- ITS FALSE NEIGHBOUR: 'it returns false'. Refute it at one input. -/
def fnPaidWrong : ChangeSpec := { name := "fnPaid", fn := fun _ => fun
  | [d] => { results := [.lit (.bool false)], args := [d] }
  | _ => none }
def FnPaidWrongFalsely : Prop := fnPaidRow.holds Try.pinned (OpenSpec.ofChange fnPaidWrong)

/-- 'laws.FnRefund': WHATEVER THE INPUT: true; the input reads as it did. -/
def fnRefundSpec : ChangeSpec := { name := "fnRefund", fn := fun _ => fun
  | [d] => { results := [.lit (.bool true)], args := [d] }
  | _ => none }
def fnRefundRow : OpenClaim := { program := "ytadcmngooobeiaa", sum := "ba9b6b38e3578a04254770143906dc5d1b9bf6066c3966e730cdd61c433e1f08", func := "loop.example/g03014/laws.FnRefund", spec := "fnRefund", apart := false }
def FnRefundSaid : Prop := fnRefundRow.holds Try.pinned (OpenSpec.ofChange fnRefundSpec)

/-- ITS FALSE NEIGHBOUR: 'it returns false'. Refute it at one input. -/
def fnRefundWrong : ChangeSpec := { name := "fnRefund", fn := fun _ => fun
  | [d] => { results := [.lit (.bool false)], args := [d] }
  | _ => none }
def FnRefundWrongFalsely : Prop := fnRefundRow.holds Try.pinned (OpenSpec.ofChange fnRefundWrong)

/-- 'laws.FnGiven': WHATEVER THE INPUT: true; the input reads as it did. -/
def fnGivenSpec : ChangeSpec := { name := "fnGiven", fn := fun _ => fun
  | [d] => { results := [.lit (.bool true)], args := [d] }
  | _ => none }
def fnGivenRow : OpenClaim := { program := "ytadcmngooobeiaa", sum := "ba9b6b38e3578a04254770143906dc5d1b9bf6066c3966e730cdd61c433e1f08", func := "loop.example/g03014/laws.FnGiven", spec := "fnGiven", unfollowed := true, recurses := true, apart := false }
def FnGivenSaid : Prop := fnGivenRow.holds Try.pinned (OpenSpec.ofChange fnGivenSpec)

/-- ITS FALSE NEIGHBOUR: 'it returns false'. Refute it at one input. -/
def fnGivenWrong : ChangeSpec := { name := "fnGiven", fn := fun _ => fun
  | [d] => { results := [.lit (.bool false)], args := [d] }
  | _ => none }
def FnGivenWrongFalsely : Prop := fnGivenRow.holds Try.pinned (OpenSpec.ofChange fnGivenWrong)

/- THE SECOND FORM. 'bulk': how many values and letters a reading holds, each counted each time it is reached (what is shared counts as often as it is met; a slice's spare places count too). A statement '..UptoSaid' is the law's where the arguments, and the package variables that the reading takes, are together of bulk at most 1048576: NARROWER than '..Said'. Prove '..Said' where nothing that the law and all that it calls make is longer than what came in: it says more and counts as full. Else prove '..UptoSaid'. A law counts once. -/
mutual
def uptoBulk {H : Type} : DataW H → Nat
  | .lit (.string bytes) => bytes.length + 1
  | .lit _ => 1
  | .nil => 1
  | .ptr d => uptoBulk d + 1
  | .slice elems spare => uptoBulkAll elems + uptoBulkAll spare + 1
  | .agg parts => uptoBulkAll parts + 1
  | .iface _ d => uptoBulk d + 1
  | .map entries => uptoBulkEntries entries + 1
  | .held _ => 1
def uptoBulkAll {H : Type} : List (DataW H) → Nat
  | [] => 0
  | d :: r => uptoBulk d + uptoBulkAll r
def uptoBulkEntries {H : Type} : List (Lit × DataW H) → Nat
  | [] => 0
  | x :: r => uptoBulkEntry x + uptoBulkEntries r
def uptoBulkEntry {H : Type} : Lit × DataW H → Nat
  | (.string bytes, d) => bytes.length + uptoBulk d + 1
  | (_, d) => uptoBulk d + 1
 end
def uptoSmall : (H : Type) → List (DataW H) → Bool := fun _ ds => decide (uptoBulkAll ds ≤ 1048576)
def OpenSpec.upto (s : _root_.Go.ChangeSpec) : _root_.Go.OpenSpec := { _root_.Go.OpenSpec.ofChange s with cond := some uptoSmall }

/-- 'laws.FnExactIsLine', WHERE WHAT IT READS IS OF BULK AT MOST 1048576: true; the input reads as it did. -/
def fnExactIsLineUptoRow : OpenClaim := { program := "ytadcmngooobeiaa", sum := "ba9b6b38e3578a04254770143906dc5d1b9bf6066c3966e730cdd61c433e1f08", func := "loop.example/g03014/laws.FnExactIsLine", spec := "fnExactIsLine", apart := false, narrowed := true }
def FnExactIsLineUptoSaid : Prop := fnExactIsLineUptoRow.holds Try.pinned (OpenSpec.upto fnExactIsLineSpec)

/-- 'laws.FnExactSumOf', WHERE WHAT IT READS IS OF BULK AT MOST 1048576: true; the input reads as it did. -/
def fnExactSumOfUptoRow : OpenClaim := { program := "ytadcmngooobeiaa", sum := "ba9b6b38e3578a04254770143906dc5d1b9bf6066c3966e730cdd61c433e1f08", func := "loop.example/g03014/laws.FnExactSumOf", spec := "fnExactSumOf", unfollowed := true, recurses := true, apart := false, narrowed := true }
def FnExactSumOfUptoSaid : Prop := fnExactSumOfUptoRow.holds Try.pinned (OpenSpec.upto fnExactSumOfSpec)

/-- 'laws.FnExactAreLines', WHERE WHAT IT READS IS OF BULK AT MOST 1048576: true; the input reads as it did. -/
def fnExactAreLinesUptoRow : OpenClaim := { program := "ytadcmngooobeiaa", sum := "ba9b6b38e3578a04254770143906dc5d1b9bf6066c3966e730cdd61c433e1f08", func := "loop.example/g03014/laws.FnExactAreLines", spec := "fnExactAreLines", unfollowed := true, recurses := true, apart := false, narrowed := true }
def FnExactAreLinesUptoSaid : Prop := fnExactAreLinesUptoRow.holds Try.pinned (OpenSpec.upto fnExactAreLinesSpec)

/-- 'laws.FnExactChargeOrder', WHERE WHAT IT READS IS OF BULK AT MOST 1048576: true; the input reads as it did. -/
def fnExactChargeOrderUptoRow : OpenClaim := { program := "ytadcmngooobeiaa", sum := "ba9b6b38e3578a04254770143906dc5d1b9bf6066c3966e730cdd61c433e1f08", func := "loop.example/g03014/laws.FnExactChargeOrder", spec := "fnExactChargeOrder", unfollowed := true, recurses := true, apart := false, narrowed := true }
def FnExactChargeOrderUptoSaid : Prop := fnExactChargeOrderUptoRow.holds Try.pinned (OpenSpec.upto fnExactChargeOrderSpec)

/-- 'laws.FnExactPayOrder', WHERE WHAT IT READS IS OF BULK AT MOST 1048576: true; the input reads as it did. -/
def fnExactPayOrderUptoRow : OpenClaim := { program := "ytadcmngooobeiaa", sum := "ba9b6b38e3578a04254770143906dc5d1b9bf6066c3966e730cdd61c433e1f08", func := "loop.example/g03014/laws.FnExactPayOrder", spec := "fnExactPayOrder", unfollowed := true, recurses := true, apart := false, narrowed := true }
def FnExactPayOrderUptoSaid : Prop := fnExactPayOrderUptoRow.holds Try.pinned (OpenSpec.upto fnExactPayOrderSpec)

/-- 'laws.FnExactOwedFor', WHERE WHAT IT READS IS OF BULK AT MOST 1048576: true; the input reads as it did. -/
def fnExactOwedForUptoRow : OpenClaim := { program := "ytadcmngooobeiaa", sum := "ba9b6b38e3578a04254770143906dc5d1b9bf6066c3966e730cdd61c433e1f08", func := "loop.example/g03014/laws.FnExactOwedFor", spec := "fnExactOwedFor", unfollowed := true, recurses := true, apart := false, narrowed := true }
def FnExactOwedForUptoSaid : Prop := fnExactOwedForUptoRow.holds Try.pinned (OpenSpec.upto fnExactOwedForSpec)

/-- 'laws.FnExactArePercents', WHERE WHAT IT READS IS OF BULK AT MOST 1048576: true; the input reads as it did. -/
def fnExactArePercentsUptoRow : OpenClaim := { program := "ytadcmngooobeiaa", sum := "ba9b6b38e3578a04254770143906dc5d1b9bf6066c3966e730cdd61c433e1f08", func := "loop.example/g03014/laws.FnExactArePercents", spec := "fnExactArePercents", apart := false, narrowed := true }
def FnExactArePercentsUptoSaid : Prop := fnExactArePercentsUptoRow.holds Try.pinned (OpenSpec.upto fnExactArePercentsSpec)

/-- 'laws.FnExactRefundFor', WHERE WHAT IT READS IS OF BULK AT MOST 1048576: true; the input reads as it did. -/
def fnExactRefundForUptoRow : OpenClaim := { program := "ytadcmngooobeiaa", sum := "ba9b6b38e3578a04254770143906dc5d1b9bf6066c3966e730cdd61c433e1f08", func := "loop.example/g03014/laws.FnExactRefundFor", spec := "fnExactRefundFor", apart := false, narrowed := true }
def FnExactRefundForUptoSaid : Prop := fnExactRefundForUptoRow.holds Try.pinned (OpenSpec.upto fnExactRefundForSpec)

/-- 'laws.FnExactRefundOrder', WHERE WHAT IT READS IS OF BULK AT MOST 1048576: true; the input reads as it did. -/
def fnExactRefundOrderUptoRow : OpenClaim := { program := "ytadcmngooobeiaa", sum := "ba9b6b38e3578a04254770143906dc5d1b9bf6066c3966e730cdd61c433e1f08", func := "loop.example/g03014/laws.FnExactRefundOrder", spec := "fnExactRefundOrder", unfollowed := true, recurses := true, apart := false, narrowed := true }
def FnExactRefundOrderUptoSaid : Prop := fnExactRefundOrderUptoRow.holds Try.pinned (OpenSpec.upto fnExactRefundOrderSpec)

/-- 'laws.FnExactCashOf', WHERE WHAT IT READS IS OF BULK AT MOST 1048576: true; the input reads as it did. -/
def fnExactCashOfUptoRow : OpenClaim := { program := "ytadcmngooobeiaa", sum := "ba9b6b38e3578a04254770143906dc5d1b9bf6066c3966e730cdd61c433e1f08", func := "loop.example/g03014/laws.FnExactCashOf", spec := "fnExactCashOf", unfollowed := true, recurses := true, apart := false, narrowed := true }
def FnExactCashOfUptoSaid : Prop := fnExactCashOfUptoRow.holds Try.pinned (OpenSpec.upto fnExactCashOfSpec)

/-- 'laws.FnExactOpenOrders', WHERE WHAT IT READS IS OF BULK AT MOST 1048576: true; the input reads as it did. -/
def fnExactOpenOrdersUptoRow : OpenClaim := { program := "ytadcmngooobeiaa", sum := "ba9b6b38e3578a04254770143906dc5d1b9bf6066c3966e730cdd61c433e1f08", func := "loop.example/g03014/laws.FnExactOpenOrders", spec := "fnExactOpenOrders", unfollowed := true, recurses := true, apart := false, narrowed := true }
def FnExactOpenOrdersUptoSaid : Prop := fnExactOpenOrdersUptoRow.holds Try.pinned (OpenSpec.upto fnExactOpenOrdersSpec)

/-- 'laws.FnExactLinesOf', WHERE WHAT IT READS IS OF BULK AT MOST 1048576: true; the input reads as it did. -/
def fnExactLinesOfUptoRow : OpenClaim := { program := "ytadcmngooobeiaa", sum := "ba9b6b38e3578a04254770143906dc5d1b9bf6066c3966e730cdd61c433e1f08", func := "loop.example/g03014/laws.FnExactLinesOf", spec := "fnExactLinesOf", apart := false, narrowed := true }
def FnExactLinesOfUptoSaid : Prop := fnExactLinesOfUptoRow.holds Try.pinned (OpenSpec.upto fnExactLinesOfSpec)

/-- 'laws.FnPaid', WHERE WHAT IT READS IS OF BULK AT MOST 1048576: true; the input reads as it did. -/
def fnPaidUptoRow : OpenClaim := { program := "ytadcmngooobeiaa", sum := "ba9b6b38e3578a04254770143906dc5d1b9bf6066c3966e730cdd61c433e1f08", func := "loop.example/g03014/laws.FnPaid", spec := "fnPaid", unfollowed := true, recurses := true, apart := false, narrowed := true }
def FnPaidUptoSaid : Prop := fnPaidUptoRow.holds Try.pinned (OpenSpec.upto fnPaidSpec)

/-- 'laws.FnRefund', WHERE WHAT IT READS IS OF BULK AT MOST 1048576: true; the input reads as it did. -/
def fnRefundUptoRow : OpenClaim := { program := "ytadcmngooobeiaa", sum := "ba9b6b38e3578a04254770143906dc5d1b9bf6066c3966e730cdd61c433e1f08", func := "loop.example/g03014/laws.FnRefund", spec := "fnRefund", apart := false, narrowed := true }
def FnRefundUptoSaid : Prop := fnRefundUptoRow.holds Try.pinned (OpenSpec.upto fnRefundSpec)

/-- 'laws.FnGiven', WHERE WHAT IT READS IS OF BULK AT MOST 1048576: true; the input reads as it did. -/
def fnGivenUptoRow : OpenClaim := { program := "ytadcmngooobeiaa", sum := "ba9b6b38e3578a04254770143906dc5d1b9bf6066c3966e730cdd61c433e1f08", func := "loop.example/g03014/laws.FnGiven", spec := "fnGiven", unfollowed := true, recurses := true, apart := false, narrowed := true }
def FnGivenUptoSaid : Prop := fnGivenUptoRow.holds Try.pinned (OpenSpec.upto fnGivenSpec)

end Rows
end Go.Proofs.Ytadcmngooobeiaa
