/- The walk of the law on Max. -/
import Derived.Test.YtbdnbchleoahgaaMax
import Derived.Test.YtbdnbchleoahgaaLaw
namespace Go.Proofs.Ytbdnbchleoahgaa.fnExactMax
open Go.RowKit
theorem walk (a : Int) (_ha : -9223372036854775808 ≤ a ∧ a ≤ 9223372036854775807) (b : Int) (_hb : -9223372036854775808 ≤ b ∧ b ≤ 9223372036854775807) (w : World) :
    Calls Try.prog 13 #[.int .i64 a, .int .i64 b] w fun e w' => e = .returned (.bool true) ∧ Below w.heap.size w w' := by
  have hq : (max a b != max a b) = false := by simp
  have H1 := Lib.hid (max_spec a b w); have H2 := Lib.hid (max_impl a b w)
  generalize max a b = V at *
  go_enter Try.func13, Try.ntmps13
  go_wp2_with fail
  refine H1.out.mono ?_; rintro e w1 ⟨rfl, rfl⟩
  go_wp2_with fail
  refine H2.out.mono ?_; rintro e w2 ⟨rfl, rfl⟩
  go_wp2
  go_ret
  exact ⟨rfl, Below.refl _ _⟩
end Go.Proofs.Ytbdnbchleoahgaa.fnExactMax
