/- Decimal numerals, digit by digit. No program. -/
import Derived.Test.YtinijleelhbpoaaBytes
import Derived.Lib.ItoaLen
namespace Go.Proofs.Ytinijleelhbpoaa
open Go.RowKit
theorem ret_str' {a b : ByteArray} (h : a = b) : Ending.returned (.string a) = .returned (.string b) := by rw [h]
theorem dec_step (m : Nat) (h : 10 ≤ m) : Lib.decDigits m = Lib.decDigits (m / 10) ++ [UInt8.ofNat (48 + m % 10)] := by
  rw [Lib.decDigits, dif_neg (by omega)]
theorem dec_last (m : Nat) (h : m < 10) : Lib.decDigits m = [UInt8.ofNat (48 + m)] := by rw [Lib.decDigits, dif_pos h]
theorem byte_sum (k : Nat) : UInt8.ofNat (48 + k) = 48 + UInt8.ofNat k := by simp [UInt8.ofNat_add]
/-- what is still to be written ahead of S -/
def decTail (m : Nat) : List UInt8 := if m = 0 then [] else Lib.decDigits m
theorem tail_step (m : Nat) (h : m ≠ 0) : decTail m = decTail (m / 10) ++ [UInt8.ofNat (48 + m % 10)] := by
  unfold decTail
  rw [if_neg h]
  by_cases h10 : m < 10
  · rw [if_pos (by omega), dec_last m h10, Nat.mod_eq_of_lt h10]; rfl
  · rw [if_neg (by omega), dec_step m (by omega)]
end Go.Proofs.Ytinijleelhbpoaa
