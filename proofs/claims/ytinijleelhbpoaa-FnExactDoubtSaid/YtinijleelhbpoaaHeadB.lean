/- What the translation's head says: lifts_ok. -/
import Derived.Test.YtinijleelhbpoaaHead1
namespace Go.Proofs.Ytinijleelhbpoaa
theorem lifts_ok : Try.prog.liftsFinal = false := lifts_gen head_words (head_behind _) (head_strip _) head_carried
end Go.Proofs.Ytinijleelhbpoaa
