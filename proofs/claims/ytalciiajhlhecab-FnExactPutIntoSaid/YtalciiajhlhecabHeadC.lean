/- What the translation's head says: enter_ok. -/
import Derived.Test.YtalciiajhlhecabRows
namespace Go.Proofs.Ytalciiajhlhecab
theorem enter_ok : Try.prog.mayEnter = true := by kernel_rfl
end Go.Proofs.Ytalciiajhlhecab
