/- Contracts of the two texts of Mod97. -/
import Derived.Test.YtichnpjpldkceaaDoorBytes
namespace Go.Proofs.YtichnpjpldkceaaDoor
open Go.RowKit

theorem empty_of (s : ByteArray) (h : s.size = 0) : s = ⟨#[]⟩ := by
  cases s with | mk a => congr; exact Array.eq_empty_of_size_eq_zero h

theorem dig_step (m c : Int) (h : inB c 48 57 = true) : (10 * m + (c - 48) % 256) % 97 = (10 * m + (c - 48)) % 97 := by
  have := inB_iff.1 h
  rw [Int.emod_eq_of_lt (a := c - 48) (b := 256) (by omega) (by omega)]
theorem toList_emp (s : ByteArray) (h : 0 < s.size) : s.data.toList.isEmpty = false := by
  cases s with | mk a => cases a with | mk l => cases l with
    | nil => simp [ByteArray.size] at h
    | cons x l => rfl
set_option maxHeartbeats 400000 in
theorem mod_spec (s : ByteArray) (w : World) (hs : s.size ≤ maxLen) :
    Calls Tryd.prog 76 #[.string s] w fun e w' => e = .returned (.int .i64 (mod97 s.data.toList)) ∧ w = w' := by
  unfold maxLen at hs
  by_cases h0 : s.size = 0
  · obtain rfl := empty_of s h0
    clear h0
    go_enter Tryd.func76, Tryd.ntmps76
    go_wp2
    go_loop [3, 4] (fun _ i => i = .int .i64 0) (fun _ _ => 0)
    case atStart => exact rfl
    case round =>
      obtain rfl := hrel
      go_wp2
      go_ret
      exact ⟨rfl, rfl⟩
  · have hpos : 0 < s.size := by omega
    have he : s.toList.isEmpty = false := by rw [ByteArray.toList_eq]; exact toList_emp s hpos
    have HE := Lib.hid (toList_emp s hpos)
    clear h0
    go_enter Tryd.func76, Tryd.ntmps76
    go_wp2
    go_loop [3, 4] (fun n i => ∃ k : Nat, k ≤ s.size ∧ i = .int .i64 k ∧ n = .int .i64 (m97 (s.data.toList.take k)) ∧ (s.data.toList.take k).all digB = true) (fun _ i => s.size - (intOf i).toNat)
    case atStart => exact ⟨0, Nat.zero_le _, rfl, rfl, rfl⟩
    case round =>
      obtain ⟨k, hk, rfl, rfl, hall⟩ := hrel
      have HA := Lib.hid hall; clear hall
      by_cases hks : k < s.size
      · have HS := Lib.hid (m97_snoc (s.data.toList.take k) s[k])
        have HB := Lib.hid (m97_bd (s.data.toList.take k))
        generalize hm : m97 (s.data.toList.take k) = m at HS HB ⊢
        clear hm
        have hb0 : 0 ≤ m := HB.out.1
        have hb1 : m < 97 := HB.out.2
        go_wp2_with (go_at_call 38; refine (in_any _ _ _ _).mono ?_; rintro e w' ⟨rfl, rfl⟩)
        · have hn : (!inB (wrap64 (s[k].toNat : Int)) 48 57) = true := by assumption
          go_ret
          exact ⟨ret_int (by rw [mod97_no s k hks (by rw [w64b] at hn; simpa [digB] using hn)]), rfl⟩
        · have hn : (!inB (wrap64 (s[k].toNat : Int)) 48 57) = false := by assumption
          rw [w64b] at hn
          have hd : inB (s[k].toNat : Int) 48 57 = true := by simpa using hn
          go_round
          case rel => exact ⟨k + 1, by omega, by go_num, val_int (by rw [take_snoc s k hks, HS.out, dig_step _ _ hd]), by rw [take_snoc s k hks, List.all_append, HA.out]; simpa [digB] using hd⟩
          case measure => simp [intOf]; omega
      · go_wp2
        go_ret
        exact ⟨ret_int (by have h := HA.out; rw [take_all s k (by omega)] at h ⊢; rw [mod97_yes _ HE.out h]), rfl⟩
set_option maxHeartbeats 400000 in
theorem mod_impl (s : ByteArray) (w : World) (hs : s.size ≤ maxLen) :
    Calls Tryd.prog 80 #[.string s] w fun e w' => e = .returned (.int .i64 (mod97 s.data.toList)) ∧ w = w' := by
  unfold maxLen at hs
  by_cases h0 : s.size = 0
  · obtain rfl := empty_of s h0
    clear h0
    go_enter Tryd.func80, Tryd.ntmps80
    go_wp2
    go_ret
    exact ⟨rfl, rfl⟩
  · have hpos : 0 < s.size := by omega
    have he : s.toList.isEmpty = false := by rw [ByteArray.toList_eq]; exact toList_emp s hpos
    have HE := Lib.hid (toList_emp s hpos)
    clear h0
    go_enter Tryd.func80, Tryd.ntmps80
    go_wp2
    go_loop [3, 9] (fun n i => ∃ k : Nat, k ≤ s.size ∧ i = .int .i64 k ∧ n = .int .i64 (m97 (s.data.toList.take k)) ∧ (s.data.toList.take k).all digB = true) (fun _ i => s.size - (intOf i).toNat)
    case atStart => exact ⟨0, Nat.zero_le _, rfl, rfl, rfl⟩
    case round =>
      obtain ⟨k, hk, rfl, rfl, hall⟩ := hrel
      have HA := Lib.hid hall; clear hall
      by_cases hks : k < s.size
      · have HS := Lib.hid (m97_snoc (s.data.toList.take k) s[k])
        have HB := Lib.hid (m97_bd (s.data.toList.take k))
        generalize hm : m97 (s.data.toList.take k) = m at HS HB ⊢
        clear hm
        have hb0 : 0 ≤ m := HB.out.1
        have hb1 : m < 97 := HB.out.2
        go_wp2_with (go_at_call 94; refine (digit_any _ _).mono ?_; rintro e w' ⟨rfl, rfl⟩)
        · have hn : (!inB (s[k].toNat : Int) 48 57) = true := by assumption
          go_ret
          exact ⟨ret_int (by rw [mod97_no s k hks (by  simpa [digB] using hn)]), rfl⟩
        · have hn : (!inB (s[k].toNat : Int) 48 57) = false := by assumption
          skip
          have hd : inB (s[k].toNat : Int) 48 57 = true := by simpa using hn
          go_round
          case rel => exact ⟨k + 1, by omega, by go_num, val_int (by rw [take_snoc s k hks, HS.out, dig_step _ _ hd]), by rw [take_snoc s k hks, List.all_append, HA.out]; simpa [digB] using hd⟩
          case measure => simp [intOf]; omega
      · go_wp2
        go_ret
        exact ⟨ret_int (by have h := HA.out; rw [take_all s k (by omega)] at h ⊢; rw [mod97_yes _ HE.out h]), rfl⟩
end Go.Proofs.YtichnpjpldkceaaDoor
