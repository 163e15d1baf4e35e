/- What the translation's head says: lifts_ok. -/
import Derived.Test.YtodphbnbljpegabRows
namespace Go.Proofs.Ytodphbnbljpegab
theorem lifts_ok : Try.prog.liftsFinal = false := by kernel_rfl
end Go.Proofs.Ytodphbnbljpegab
