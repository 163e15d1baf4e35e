/- What the translation's head says: lifts_ok. -/
import Derived.Test.YtalciiajhlhecabRows
namespace Go.Proofs.Ytalciiajhlhecab
theorem lifts_ok : Try.prog.liftsFinal = false := by kernel_rfl
end Go.Proofs.Ytalciiajhlhecab
