/- What the translation's head says: lifts_ok. -/
import Derived.Test.YtiplbfpkfhlhcaaHead1
namespace Go.Proofs.Ytiplbfpkfhlhcaa
theorem lifts_ok : Try.prog.liftsFinal = false := lifts_gen head_words (head_behind _) (head_strip _) head_carried
end Go.Proofs.Ytiplbfpkfhlhcaa
