/- Contracts of l1In, isCapital, isDigit. -/
import Derived.Test.YtbdnbchleoahgaaMath
import Derived.WalkSpells
import Derived.WalkLawsBesides
namespace Go.Proofs.Ytbdnbchleoahgaa
open Go.RowKit
set_option maxHeartbeats 400000 in
theorem in_any (x a b : Int) (w : World) :
    Calls Try.prog 81 #[.int .i64 x, .int .i64 a, .int .i64 b] w fun e w' => e = .returned (.bool (inB x a b)) ∧ w = w' := by
  by_cases h1 : a ≤ x <;> by_cases h2 : x ≤ b
  all_goals
    go_enter Try.func81, Try.ntmps81
    go_wp2
    go_ret
    exact ⟨ret_bool (by simp [inB]; omega), rfl⟩
set_option maxHeartbeats 400000 in
theorem capital_any (x : Int) (w : World) :
    Calls Try.prog 183 #[.int .u8 x] w fun e w' => e = .returned (.bool (inB x 65 90)) ∧ w = w' := by
  by_cases h1 : 65 ≤ x <;> by_cases h2 : x ≤ 90
  all_goals
    go_enter Try.func183, Try.ntmps183
    go_wp2
    go_ret
    exact ⟨ret_bool (by simp [inB]; omega), rfl⟩
end Go.Proofs.Ytbdnbchleoahgaa
