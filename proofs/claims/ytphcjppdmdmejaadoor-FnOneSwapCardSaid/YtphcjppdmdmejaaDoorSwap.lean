/- Contracts of the two texts of SwapAt. -/
import Derived.Test.YtphcjppdmdmejaaDoorBytes
import Derived.Deep.QuietTactic
import Derived.BigQuiet
namespace Go.Proofs.YtphcjppdmdmejaaDoor
open Go.RowKit

theorem ret_str {a b : ByteArray} (h : a = b) : Ending.returned (.string a) = .returned (.string b) := by rw [h]
def swapAt (s : ByteArray) (k : Nat) : ByteArray := s.extract 0 k ++ s.extract (k + 1) (k + 2) ++ s.extract k (k + 1) ++ s.extract (k + 2) s.size
def swapped (s : ByteArray) (i : Int) : ByteArray := if 0 ≤ i ∧ i + 2 ≤ s.size then swapAt s i.toNat else s
set_option maxHeartbeats 400000 in
theorem swap_impl (s : ByteArray) (i : Int) (w : World) (hs : s.size ≤ maxLen) (_hi : i ≤ 9223372036854775807) :
    Calls Tryd.prog 18 #[.string s, .int .i64 i] w fun e w' => e = .returned (.string (swapped s i)) ∧ ∃ n, w' = w.drewN n := by
  unfold maxLen at hs
  by_cases h : 0 ≤ i ∧ i + 2 ≤ s.size
  · obtain ⟨k, rfl⟩ := Int.eq_ofNat_of_zero_le h.1
    have hk : k + 2 ≤ s.size := by omega
    have hb : ¬ ((s.size : Int) - 1 ≤ (k : Int)) := by omega
    have hb' : ¬ ((k : Int) < 0) := by omega
    have hf : swapped s k = swapAt s k := by unfold swapped; rw [if_pos h]; rfl
    have HF := Lib.hid hf; clear hf h
    go_enter Tryd.func18, Tryd.ntmps18
    go_wp2
    go_quiet (fail)
    go_wp2
    go_ret
    exact ⟨ret_str (by rw [HF.out]; rfl), _, rfl⟩
  · have hf : swapped s i = s := by unfold swapped; rw [if_neg h]
    have HF := Lib.hid hf; clear hf
    by_cases h0 : i < 0
    · clear h
      go_enter Tryd.func18, Tryd.ntmps18
      go_wp2
      go_ret
      exact ⟨ret_str HF.out.symm, 0, rfl⟩
    · have hb : (s.size : Int) - 1 ≤ i := by omega
      clear h
      go_enter Tryd.func18, Tryd.ntmps18
      go_wp2
      go_ret
      exact ⟨ret_str HF.out.symm, 0, rfl⟩
end Go.Proofs.YtphcjppdmdmejaaDoor
