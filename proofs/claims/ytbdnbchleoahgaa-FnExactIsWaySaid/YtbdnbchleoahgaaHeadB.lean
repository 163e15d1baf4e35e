/- What the translation's head says: lifts_ok. -/
import Derived.Test.YtbdnbchleoahgaaRows
namespace Go.Proofs.Ytbdnbchleoahgaa
theorem lifts_ok : Try.prog.liftsFinal = false := by kernel_rfl
end Go.Proofs.Ytbdnbchleoahgaa
