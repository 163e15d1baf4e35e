/- What the translation's head says: lifts_ok. -/
import Derived.Test.YtodphbnbljpegaaRows
namespace Go.Proofs.Ytodphbnbljpegaa
theorem lifts_ok : Try.prog.liftsFinal = false := by kernel_rfl
end Go.Proofs.Ytodphbnbljpegaa
