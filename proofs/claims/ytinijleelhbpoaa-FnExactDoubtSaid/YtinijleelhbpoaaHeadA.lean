/- What the translation's head says: make_ok. -/
import Derived.Test.YtinijleelhbpoaaHead1
namespace Go.Proofs.Ytinijleelhbpoaa
theorem make_ok : Try.prog.make = some .cut := make_gen head_words (head_behind _) head_gc head_spec head_cut
end Go.Proofs.Ytinijleelhbpoaa
