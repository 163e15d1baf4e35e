/- Contracts of Max, both texts. -/
import Derived.Test.YtamlbiagjipedaaBa
namespace Go.Proofs.Ytamlbiagjipedaa
open Go.RowKit
set_option maxHeartbeats 1000000 in
theorem max_impl (a b : Int) (w : World) :
    Calls Try.prog 70 #[.int .i64 a, .int .i64 b] w fun e w' => e = .returned (.int .i64 (max a b)) ∧ w' = w := by
  go_enter Try.func70, Try.ntmps70
  go_wp2
  all_goals
    go_ret
    exact ⟨ret_int (by omega), rfl⟩
set_option maxHeartbeats 1000000 in
theorem max_spec (a b : Int) (w : World) :
    Calls Try.prog 85 #[.int .i64 a, .int .i64 b] w fun e w' => e = .returned (.int .i64 (max a b)) ∧ w' = w := by
  by_cases h : a < b
  · have hR := Lib.hid (show max a b = b by omega)
    go_enter Try.func85, Try.ntmps85
    go_wp2
    go_ret
    exact ⟨ret_int hR.out.symm, rfl⟩
  · have hR := Lib.hid (show max a b = a by omega)
    go_enter Try.func85, Try.ntmps85
    go_wp2
    go_ret
    exact ⟨ret_int hR.out.symm, rfl⟩
end Go.Proofs.Ytamlbiagjipedaa
