/- Contracts of the two texts of IsPlace, and of l1In and isCapital. -/
import Derived.Test.YtbdnbchleoahgaaBytes
namespace Go.Proofs.Ytbdnbchleoahgaa
open Go.RowKit

set_option maxHeartbeats 400000 in
theorem place_spec (s : ByteArray) (w : World) (hs : s.size ≤ maxLen) :
    Calls Try.prog 103 #[.string s] w fun e w' => e = .returned (.bool (plcB s.data.toList)) ∧ w = w' := by
  unfold maxLen at hs
  by_cases h3 : s.size = 3
  · have h3b : (((s.size : Nat) : Int) != 3) = false := by simp [h3]
    have hlen : s.data.toList.length = 3 := by simpa using h3
    have HL := Lib.hid hlen; clear hlen
    have H3 := Lib.hid h3
    have hlo : 3 ≤ s.size := by omega
    have hhi : s.size ≤ 3 := by omega
    clear h3
    go_enter Try.func103, Try.ntmps103
    go_wp2
    go_loop [3] (fun i => ∃ k : Nat, k ≤ 3 ∧ i = .int .i64 k ∧ (s.data.toList.take k).all capB = true) (fun i => 3 - (intOf i).toNat)
    case atStart => exact ⟨0, Nat.zero_le _, rfl, rfl⟩
    case round =>
      obtain ⟨k, hk, rfl, hall⟩ := hrel
      have HA := Lib.hid hall; clear hall
      by_cases hlt : k < 3
      · have hks : k < s.size := by omega
        go_wp2_with (go_at_call 81; refine (in_any _ _ _ _).mono ?_; rintro e w' ⟨rfl, rfl⟩)
        · have hn : (!inB (wrap64 (s[k].toNat : Int)) 65 90) = true := by assumption
          rw [w64b] at hn
          go_ret
          exact ⟨ret_bool (Eq.symm (plc_no s k hks (by simpa [capB] using hn))), rfl⟩
        · have hn : (!inB (wrap64 (s[k].toNat : Int)) 65 90) = false := by assumption
          rw [w64b] at hn
          go_round
          case rel => exact ⟨k + 1, by omega, by go_num, by rw [take_snoc s k hks, List.all_append, HA.out]; simpa [capB] using hn⟩
          case measure => simp [intOf]; omega
      · go_wp2
        go_ret
        exact ⟨ret_bool (by
          have h : s.data.toList.take k = s.data.toList := List.take_of_length_le (by rw [HL.out]; omega)
          have := HA.out; rw [h] at this
          simp only [plcB, HL.out, this]; rfl), rfl⟩
  · have h3b : (((s.size : Nat) : Int) != 3) = true := by simp; omega
    go_enter Try.func103, Try.ntmps103
    go_wp2
    go_ret
    exact ⟨ret_bool (by simp [plcB]; intro h; omega), rfl⟩
set_option maxHeartbeats 400000 in
theorem place_impl (s : ByteArray) (w : World) (hs : s.size ≤ maxLen) :
    Calls Try.prog 143 #[.string s] w fun e w' => e = .returned (.bool (plcB s.data.toList)) ∧ w = w' := by
  unfold maxLen at hs
  by_cases h3 : s.size = 3
  · have h3b : (((s.size : Nat) : Int) != 3) = false := by simp [h3]
    have hlen : s.data.toList.length = 3 := by simpa using h3
    have HL := Lib.hid hlen; clear hlen
    have H3 := Lib.hid h3
    have hlo : 3 ≤ s.size := by omega
    have hhi : s.size ≤ 3 := by omega
    clear h3
    go_enter Try.func143, Try.ntmps143
    go_wp2
    go_loop [9] (fun i => ∃ k : Nat, k ≤ s.size ∧ i = .int .i64 k ∧ (s.data.toList.take k).all capB = true) (fun i => s.size - (intOf i).toNat)
    case atStart => exact ⟨0, Nat.zero_le _, rfl, rfl⟩
    case round =>
      obtain ⟨k, hk, rfl, hall⟩ := hrel
      have HA := Lib.hid hall; clear hall
      by_cases hks : k < s.size
      · go_wp2_with (go_at_call 183; refine (capital_any _ _).mono ?_; rintro e w' ⟨rfl, rfl⟩)
        · have hn : (!inB (s[k].toNat : Int) 65 90) = true := by assumption
          go_ret
          exact ⟨ret_bool (Eq.symm (plc_no s k hks (by simpa [capB] using hn))), rfl⟩
        · have hn : (!inB (s[k].toNat : Int) 65 90) = false := by assumption
          go_round
          case rel => exact ⟨k + 1, by omega, by go_num, by rw [take_snoc s k hks, List.all_append, HA.out]; simpa [capB] using hn⟩
          case measure => simp [intOf]; omega
      · go_wp2
        go_ret
        exact ⟨ret_bool (by
          have h : s.data.toList.take k = s.data.toList := List.take_of_length_le (by rw [HL.out]; omega)
          have := HA.out; rw [h] at this
          simp only [plcB, HL.out, this]; rfl), rfl⟩
  · have h3b : (((s.size : Nat) : Int) != 3) = true := by simp; omega
    go_enter Try.func143, Try.ntmps143
    go_wp2
    go_ret
    exact ⟨ret_bool (by simp [plcB]; intro h; omega), rfl⟩
end Go.Proofs.Ytbdnbchleoahgaa
