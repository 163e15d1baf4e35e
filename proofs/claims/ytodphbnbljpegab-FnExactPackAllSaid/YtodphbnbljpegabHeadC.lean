/- What the translation's head says: enter_ok. -/
import Derived.Test.YtodphbnbljpegabRows
namespace Go.Proofs.Ytodphbnbljpegab
theorem enter_ok : Try.prog.mayEnter = true := by kernel_rfl
end Go.Proofs.Ytodphbnbljpegab
