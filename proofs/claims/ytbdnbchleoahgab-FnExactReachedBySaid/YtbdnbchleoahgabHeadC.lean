/- What the translation's head says: enter_ok. -/
import Derived.Test.YtbdnbchleoahgabRows
namespace Go.Proofs.Ytbdnbchleoahgab
theorem enter_ok : Try.prog.mayEnter = true := by kernel_rfl
end Go.Proofs.Ytbdnbchleoahgab
