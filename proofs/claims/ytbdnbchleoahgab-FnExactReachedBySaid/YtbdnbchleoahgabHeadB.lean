/- What the translation's head says: lifts_ok. -/
import Derived.Test.YtbdnbchleoahgabRows
namespace Go.Proofs.Ytbdnbchleoahgab
theorem lifts_ok : Try.prog.liftsFinal = false := by kernel_rfl
end Go.Proofs.Ytbdnbchleoahgab
