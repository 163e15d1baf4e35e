/- What the translation's head says: make_ok. -/
import Derived.Test.YtbdnbchleoahgaaRows
namespace Go.Proofs.Ytbdnbchleoahgaa
theorem make_ok : Try.prog.make = some .cut := by kernel_rfl
end Go.Proofs.Ytbdnbchleoahgaa
