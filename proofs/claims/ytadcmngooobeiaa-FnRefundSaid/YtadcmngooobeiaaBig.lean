/- The contract of laws.big. -/
import Derived.Test.YtadcmngooobeiaaBa
namespace Go.Proofs.Ytadcmngooobeiaa
open Go.RowKit
def bigB (n : Nat) : Bool := decide (4096 < n)
theorem big_any (A : Option Addr) (n cap : Nat) (w : World) : Calls Try.prog 52 #[.slice A n cap] w fun e w' => e = .returned (.bool (bigB n)) ∧ w = w' := by
  by_cases h : (4096 : Int) < (n : Int)
  · go_enter Try.func52, Try.ntmps52
    go_wp2
    go_ret
    exact ⟨by unfold bigB; rw [decide_eq_true (by omega)]; simp, rfl⟩
  · go_enter Try.func52, Try.ntmps52
    go_wp2
    go_ret
    exact ⟨by unfold bigB; rw [decide_eq_false (by omega)]; simp, rfl⟩
end Go.Proofs.Ytadcmngooobeiaa
