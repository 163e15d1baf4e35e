/- What the translation's head says: make_ok. -/
import Derived.Test.YtalciiajhlhecaaRows
namespace Go.Proofs.Ytalciiajhlhecaa
theorem make_ok : Try.prog.make = some .cut := by kernel_rfl
end Go.Proofs.Ytalciiajhlhecaa
