/- What the translation's head says: enter_ok. -/
import Derived.Test.YtodphbnbljpegaaRows
namespace Go.Proofs.Ytodphbnbljpegaa
theorem enter_ok : Try.prog.mayEnter = true := by kernel_rfl
end Go.Proofs.Ytodphbnbljpegaa
