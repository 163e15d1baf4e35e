/- string([]byte{x}). -/
import Derived.Test.YtinijleelhbpoaaBytes
import Derived.Lib.ItoaLen
namespace Go.Proofs.Ytinijleelhbpoaa
open Go.RowKit
end Go.Proofs.Ytinijleelhbpoaa
