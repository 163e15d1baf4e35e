/- What the translation's head says: make_ok. -/
import Derived.Test.YtodphbnbljpegabRows
namespace Go.Proofs.Ytodphbnbljpegab
theorem make_ok : Try.prog.make = some .cut := by kernel_rfl
end Go.Proofs.Ytodphbnbljpegab
