/- What the translation's head says: make_ok. -/
import Derived.Test.YtalciiajhlhecabRows
namespace Go.Proofs.Ytalciiajhlhecab
theorem make_ok : Try.prog.make = some .cut := by kernel_rfl
end Go.Proofs.Ytalciiajhlhecab
