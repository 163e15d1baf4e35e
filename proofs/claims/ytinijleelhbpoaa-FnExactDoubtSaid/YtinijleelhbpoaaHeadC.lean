/- What the translation's head says: enter_ok. -/
import Derived.Test.YtinijleelhbpoaaHead1
namespace Go.Proofs.Ytinijleelhbpoaa
theorem later_no : Try.prog.laysLater = false := by kernel_rfl
theorem reflect_no : Try.prog.bearsReflect = false := by kernel_rfl
theorem door_ok : Try.prog.doorFits [] = true := by kernel_rfl
theorem enter_ok : Try.prog.mayEnter = true := enter_gen head_words (head_behind _) (head_strip _) head_cut later_no reflect_no door_ok
end Go.Proofs.Ytinijleelhbpoaa
