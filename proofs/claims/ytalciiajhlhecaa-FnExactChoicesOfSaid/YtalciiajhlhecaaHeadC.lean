/- What the translation's head says: enter_ok. -/
import Derived.Test.YtalciiajhlhecaaRows
namespace Go.Proofs.Ytalciiajhlhecaa
theorem enter_ok : Try.prog.mayEnter = true := by kernel_rfl
end Go.Proofs.Ytalciiajhlhecaa
