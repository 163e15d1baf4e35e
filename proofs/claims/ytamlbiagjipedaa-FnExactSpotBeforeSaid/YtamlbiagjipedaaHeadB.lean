/- What the translation's head says: lifts_ok. -/
import Derived.Test.YtamlbiagjipedaaHead1
namespace Go.Proofs.Ytamlbiagjipedaa
theorem lifts_ok : Try.prog.liftsFinal = false := lifts_gen head_words (head_behind _) (head_strip _) head_carried
end Go.Proofs.Ytamlbiagjipedaa
