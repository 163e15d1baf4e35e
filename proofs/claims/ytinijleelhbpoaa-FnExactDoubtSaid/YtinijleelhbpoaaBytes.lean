/- Contracts of l1In, isCapital, isDigit. -/
import Derived.Test.YtinijleelhbpoaaMath
import Derived.WalkSpells
import Derived.WalkLawsBesides
namespace Go.Proofs.Ytinijleelhbpoaa
open Go.RowKit
end Go.Proofs.Ytinijleelhbpoaa
