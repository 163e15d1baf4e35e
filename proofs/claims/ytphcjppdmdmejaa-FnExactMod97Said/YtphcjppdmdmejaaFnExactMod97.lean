/- The walk of the law on Mod97. -/
import Derived.Test.YtphcjppdmdmejaaMod
namespace Go.Proofs.Ytphcjppdmdmejaa.fnExactMod97
open Go.RowKit
set_option maxHeartbeats 400000 in
theorem walk (s : ByteArray) (hs : s.size ≤ maxLen) (w : World) :
    Calls Try.prog 6 #[.string s] w fun e w' => e = .returned (.bool true) ∧ Below w.heap.size w w' := by
  have hm := hs
  unfold maxLen at hm
  have hq : (mod97 s.data.toList != mod97 s.data.toList) = false := by simp
  by_cases hbig : (1048576 : Int) < (s.size : Int)
  · go_enter Try.func6, Try.ntmps6
    go_wp2
    go_ret
    exact ⟨rfl, Below.refl _ _⟩
  · go_enter Try.func6, Try.ntmps6
    go_wp2_with (first
      | (go_at_call 18; refine (mod_spec _ _ hs).mono ?_; rintro e w' ⟨rfl, rfl⟩)
      | (go_at_call 19; refine (mod_impl _ _ hs).mono ?_; rintro e w' ⟨rfl, rfl⟩))
    go_ret
    exact ⟨rfl, Below.refl _ _⟩
end Go.Proofs.Ytphcjppdmdmejaa.fnExactMod97
