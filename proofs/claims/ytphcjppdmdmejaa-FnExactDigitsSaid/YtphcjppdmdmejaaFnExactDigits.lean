/- The walk of the law on Digits. -/
import Derived.Test.YtphcjppdmdmejaaDig2
namespace Go.Proofs.Ytphcjppdmdmejaa.fnExactDigits
open Go.RowKit
set_option maxHeartbeats 400000 in
theorem walk (s : ByteArray) (hs : s.size ≤ maxLen) (w : World) :
    Calls Try.prog 5 #[.string s] w fun e w' => e = .returned (.bool true) ∧ Below w.heap.size w w' := by
  have hm := hs
  unfold maxLen at hm
  by_cases hbig : (1048576 : Int) < (s.size : Int)
  · go_enter Try.func5, Try.ntmps5
    go_wp2
    go_ret
    exact ⟨rfl, Below.refl _ _⟩
  · go_enter Try.func5, Try.ntmps5
    go_wp2_with fail
    refine (dig_spec _ _ (by omega)).mono ?_; rintro e w1 ⟨rfl, hb1⟩
    go_wp2_with fail
    refine (dig_impl _ _ (by omega)).mono ?_; rintro e w2 ⟨rfl, hb2⟩
    generalize digsS s.data.toList = x
    generalize okAll s.data.toList = y
    have hx : (x.toList != x.toList) = false := by simp
    have hy : (y != y) = false := by simp
    go_wp2
    go_ret
    exact ⟨rfl, hb1.trans (hb2.mono hb1.size)⟩
end Go.Proofs.Ytphcjppdmdmejaa.fnExactDigits
