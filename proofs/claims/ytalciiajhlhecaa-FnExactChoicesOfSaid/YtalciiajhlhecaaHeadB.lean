/- What the translation's head says: lifts_ok. -/
import Derived.Test.YtalciiajhlhecaaRows
namespace Go.Proofs.Ytalciiajhlhecaa
theorem lifts_ok : Try.prog.liftsFinal = false := by kernel_rfl
end Go.Proofs.Ytalciiajhlhecaa
