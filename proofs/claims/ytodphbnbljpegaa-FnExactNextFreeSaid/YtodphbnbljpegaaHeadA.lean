/- What the translation's head says: make_ok. -/
import Derived.Test.YtodphbnbljpegaaRows
namespace Go.Proofs.Ytodphbnbljpegaa
theorem make_ok : Try.prog.make = some .cut := by kernel_rfl
end Go.Proofs.Ytodphbnbljpegaa
