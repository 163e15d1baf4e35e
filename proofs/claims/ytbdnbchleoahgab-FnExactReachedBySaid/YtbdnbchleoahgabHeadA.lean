/- What the translation's head says: make_ok. -/
import Derived.Test.YtbdnbchleoahgabRows
namespace Go.Proofs.Ytbdnbchleoahgab
theorem make_ok : Try.prog.make = some .cut := by kernel_rfl
end Go.Proofs.Ytbdnbchleoahgab
