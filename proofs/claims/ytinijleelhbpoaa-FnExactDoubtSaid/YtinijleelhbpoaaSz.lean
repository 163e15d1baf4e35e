/- What the sizes of the exact laws say, and the size of a slice of ints. -/
import Derived.Test.YtinijleelhbpoaaInts
namespace Go.Proofs.Ytinijleelhbpoaa
open Go.RowKit
def SzPost (left : Int) (n : Nat) (e : Ending) : Prop := ∃ r : Int, e = .returned (.int .i64 r) ∧ (r = -1 ∨ (0 ≤ r ∧ r ≤ left ∧ (n : Int) ≤ left))
end Go.Proofs.Ytinijleelhbpoaa
