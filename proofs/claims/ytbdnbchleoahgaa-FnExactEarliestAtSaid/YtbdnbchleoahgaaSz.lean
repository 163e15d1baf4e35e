/- What the sizes of the exact laws say, and the size of a slice of ints. -/
import Derived.Test.YtbdnbchleoahgaaInts
namespace Go.Proofs.Ytbdnbchleoahgaa
open Go.RowKit
def SzPost (left : Int) (n : Nat) (e : Ending) : Prop := ∃ r : Int, e = .returned (.int .i64 r) ∧ (r = -1 ∨ (0 ≤ r ∧ r ≤ left ∧ (n : Int) ≤ left))
theorem sz_ints (A : Option Addr) (cap n : Nat) (left : Int) (w : World) (hn : n ≤ maxLen) (hl : 0 ≤ left ∧ left ≤ 1048576) :
    Calls Try.prog 107 #[.slice A n cap, .int .i64 left] w fun e w' => SzPost left n e ∧ Below w.heap.size w w' := by
  unfold maxLen at hn
  obtain ⟨hl0, hl1⟩ := hl
  by_cases h1 : left - (n : Int) < 0
  · go_enter Try.func107, Try.ntmps107
    go_wp2
    go_ret
    exact ⟨⟨-1, rfl, .inl rfl⟩, Below.refl _ _⟩
  · go_enter Try.func107, Try.ntmps107
    go_wp2
    go_ret
    exact ⟨⟨_, rfl, .inr ⟨by omega, by omega, by omega⟩⟩, Below.refl _ _⟩
end Go.Proofs.Ytbdnbchleoahgaa
