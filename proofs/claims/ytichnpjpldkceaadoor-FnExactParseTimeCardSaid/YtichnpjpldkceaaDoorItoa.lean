/- The contract of spec.FormatInt: the decimal numeral. -/
import Derived.Test.YtichnpjpldkceaaDoorConv1
import Derived.Lib.ItoaLen
namespace Go.Proofs.YtichnpjpldkceaaDoor
open Go.RowKit
theorem ret_str' {a b : ByteArray} (h : a = b) : Ending.returned (.string a) = .returned (.string b) := by rw [h]
theorem dec_step (m : Nat) (h : 10 ≤ m) : Lib.decDigits m = Lib.decDigits (m / 10) ++ [UInt8.ofNat (48 + m % 10)] := by
  rw [Lib.decDigits, dif_neg (by omega)]
theorem dec_last (m : Nat) (h : m < 10) : Lib.decDigits m = [UInt8.ofNat (48 + m)] := by rw [Lib.decDigits, dif_pos h]
theorem byte_sum (k : Nat) : UInt8.ofNat (48 + k) = 48 + UInt8.ofNat k := by simp [UInt8.ofNat_add]
/-- what is still to be written ahead of S -/
def decTail (m : Nat) : List UInt8 := if m = 0 then [] else Lib.decDigits m
theorem tail_step (m : Nat) (h : m ≠ 0) : decTail m = decTail (m / 10) ++ [UInt8.ofNat (48 + m % 10)] := by
  unfold decTail
  rw [if_neg h]
  by_cases h10 : m < 10
  · rw [if_pos (by omega), dec_last m h10, Nat.mod_eq_of_lt h10]; rfl
  · rw [if_neg (by omega), dec_step m (by omega)]
set_option maxRecDepth 100000 in
set_option maxHeartbeats 400000 in
theorem fmt_pos (n : Nat) (w : World) (h0 : 0 < n) (h1 : n ≤ 9223372036854775807) :
    Calls Tryd.prog 28 #[.int .i64 n] w fun e w' => e = .returned (.string ⟨(Lib.itoa n).toArray⟩) ∧ Below w.heap.size w w' := by
  have hz : ((n : Int) == 0) = false := by simp; omega
  have hneg : ¬ ((n : Int) < 0) := by omega
  go_enter Tryd.func28, Tryd.ntmps28
  go_wp2
  go_loopw [3, 4] (fun s x wr => ∃ (m : Nat) (l : List UInt8), m ≤ n ∧ x = .int .i64 m ∧ s = .string ⟨l.toArray⟩ ∧ decTail m ++ l = Lib.decDigits n ∧ Below w.heap.size w wr) (fun _ x _ => (intOf x).toNat)
  case atStart => exact ⟨n, [], Nat.le_refl _, rfl, rfl, by unfold decTail; rw [if_neg (by omega), List.append_nil], Below.refl _ _⟩
  case round =>
    obtain ⟨m, l, hm, rfl, rfl, hl, hb⟩ := hrel
    have HL := Lib.hid hl; clear hl
    by_cases hm0 : m = 0
    · subst hm0
      go_wp2
      go_ret
      exact ⟨ret_str' (by have := HL.out; simp only [decTail, if_true, List.nil_append] at this; rw [this, Lib.itoa_nonneg]), hb⟩
    · have hmb : ((m : Int) != 0) = true := by simp; omega
      have hm1 : (0 : Int) ≤ m := by omega
      have hm2 : (m : Int) ≤ 9223372036854775807 := by omega
      have kc := conv_one wr (48 + (m : Int) % 10) (by omega) (by omega)
      have hll : ¬ 9223372036854775807 < 1 + l.length := by
        have h2 := congrArg List.length HL.out
        have h3 := Lib.itoa_length_le n (by omega) (by omega)
        rw [Lib.itoa_nonneg] at h3
        simp only [List.length_append] at h2
        omega
      go_wp2
      go_roundw
      case rel =>
        refine ⟨m / 10, UInt8.ofNat (48 + m % 10) :: l, by omega, by go_num, ?_, ?_, hb.alloc hb.size _⟩
        · refine congrArg Value.string ?_
          rw [byte_sum]; rfl
        · have := HL.out
          rw [tail_step m hm0] at this
          simpa using this
      case measure => simp [intOf]; omega
set_option maxRecDepth 100000 in
set_option maxHeartbeats 400000 in
theorem fmt_neg (n : Nat) (w : World) (h0 : 0 < n) (h1 : n ≤ 9223372036854775808) :
    Calls Tryd.prog 28 #[.int .i64 (-(n : Int))] w fun e w' => e = .returned (.string ⟨(Lib.itoa (-(n : Int))).toArray⟩) ∧ Below w.heap.size w w' := by
  have hz : (-(n : Int) == 0) = false := by simp; omega
  have hneg : -(n : Int) < 0 := by omega
  go_enter Tryd.func28, Tryd.ntmps28
  go_wp2
  go_loopw [3, 4] (fun s x wr => ∃ (m : Nat) (l : List UInt8), m ≤ n ∧ x = .int .i64 (-(m : Int)) ∧ s = .string ⟨l.toArray⟩ ∧ decTail m ++ l = Lib.decDigits n ∧ Below w.heap.size w wr) (fun _ x _ => (intOf x).natAbs)
  case atStart => exact ⟨n, [], Nat.le_refl _, rfl, rfl, by unfold decTail; rw [if_neg (by omega), List.append_nil], Below.refl _ _⟩
  case round =>
    obtain ⟨m, l, hm, rfl, rfl, hl, hb⟩ := hrel
    have HL := Lib.hid hl; clear hl
    have hll : ¬ 9223372036854775807 < 1 + l.length := by
      have h2 := congrArg List.length HL.out
      have h3 := Lib.itoa_length_le (-(n : Int)) (by omega) (by omega)
      rw [Lib.itoa_neg _ (by omega)] at h3
      simp only [List.length_append, List.length_cons] at h2 h3
      omega
    by_cases hm0 : m = 0
    · subst hm0
      go_wp2
      go_ret
      exact ⟨ret_str' (by
        have := HL.out; simp only [decTail, if_true, List.nil_append] at this
        rw [Lib.itoa_neg _ (by omega), ← this]; rfl), hb⟩
    · have hmb : (-(m : Int) != 0) = true := by simp; omega
      have hm1 : (1 : Int) ≤ m := by omega
      have hm2 : (m : Int) ≤ 9223372036854775808 := by omega
      have HT := Lib.hid (show decTail (m / 10) ++ UInt8.ofNat (48 + m % 10) :: l = Lib.decDigits n by
        have := HL.out
        rw [tail_step m hm0] at this
        simpa using this)
      by_cases hd : 0 < (m : Int) % 10
      · have kc := conv_one wr (48 + (m : Int) % 10) (by omega) (by omega)
        go_wp2
        go_roundw
        case rel =>
          refine ⟨m / 10, UInt8.ofNat (48 + m % 10) :: l, by omega, by go_num, ?_, HT.out, hb.alloc hb.size _⟩
          refine congrArg Value.string ?_
          rw [byte_sum]; rfl
        case measure => simp [intOf]; omega
      · have hd' : (m : Int) % 10 = 0 := by omega
        have HD := Lib.hid hd'; clear hd'
        have kc := conv_one wr (48 + -((m : Int) % 10)) (by omega) (by omega)
        go_wp2
        go_roundw
        case rel =>
          refine ⟨m / 10, UInt8.ofNat (48 + m % 10) :: l, by omega, by go_num, ?_, HT.out, hb.alloc hb.size _⟩
          refine congrArg Value.string ?_
          have e1 := HD.out
          rw [show (48 + -((m : Int) % 10)).toNat = 48 + m % 10 from by omega]; rfl
        case measure => simp [intOf]; omega

def itoaS (n : Int) : ByteArray := ⟨(Lib.itoa n).toArray⟩
theorem fmt_spec (n : Int) (w : World) (h : -9223372036854775808 ≤ n ∧ n ≤ 9223372036854775807) :
    Calls Tryd.prog 28 #[.int .i64 n] w fun e w' => e = .returned (.string (itoaS n)) ∧ Below w.heap.size w w' := by
  rcases Int.lt_trichotomy n 0 with hn | rfl | hn
  · obtain ⟨m, rfl⟩ : ∃ m : Nat, n = -(m : Int) := ⟨n.natAbs, by omega⟩
    exact fmt_neg m w (by omega) (by omega)
  · go_enter Tryd.func28, Tryd.ntmps28
    go_wp2
    go_ret
    exact ⟨ret_str' (by unfold itoaS; rw [show (0 : Int) = ((0 : Nat) : Int) from rfl, Lib.itoa_nonneg, dec_last 0 (by omega)]; rfl), Below.refl _ _⟩
  · obtain ⟨m, rfl⟩ : ∃ m : Nat, n = (m : Int) := ⟨n.toNat, by omega⟩
    exact fmt_pos m w (by omega) (by omega)
end Go.Proofs.YtichnpjpldkceaaDoor
