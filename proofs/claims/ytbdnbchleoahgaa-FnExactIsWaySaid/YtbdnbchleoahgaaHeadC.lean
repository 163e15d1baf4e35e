/- What the translation's head says: enter_ok. -/
import Derived.Test.YtbdnbchleoahgaaRows
namespace Go.Proofs.Ytbdnbchleoahgaa
theorem enter_ok : Try.prog.mayEnter = true := by kernel_rfl
end Go.Proofs.Ytbdnbchleoahgaa
