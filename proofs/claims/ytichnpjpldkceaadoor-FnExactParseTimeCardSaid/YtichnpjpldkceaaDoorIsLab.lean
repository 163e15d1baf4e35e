/- Contracts of the two texts of IsLabel. -/
import Derived.Test.YtichnpjpldkceaaDoorPlace
namespace Go.Proofs.YtichnpjpldkceaaDoor
open Go.RowKit
def labB (a b : Int) (l : List UInt8) : Bool := inB a 1 3 && (inB b 0 999999999 && plcB l)
set_option maxHeartbeats 400000 in
theorem label_spec (a b : Int) (s : ByteArray) (w : World) (hs : s.size ≤ maxLen) :
    Calls Tryd.prog 54 #[.agg #[.int .i64 a, .int .i64 b, .string s]] w fun e w' => e = .returned (.bool (labB a b s.data.toList)) ∧ Below w.heap.size w w' := by
  by_cases h1 : inB a 1 3 = true
  · by_cases h2 : inB b 0 999999999 = true
    · go_enter Tryd.func54, Tryd.ntmps54
      go_wp2_with (first
        | (go_at_call 38; refine (in_any _ _ _ _).mono ?_; rintro e w' ⟨rfl, rfl⟩)
        | (go_at_call 55; refine (place_spec _ _ hs).mono ?_; rintro e w' ⟨rfl, rfl⟩))
      go_ret
      exact ⟨ret_bool (by simp [labB, h1, h2]), by first | exact Below.refl _ _ | exact (Below.refl _ _).alloc (Nat.le_refl _) _⟩
    · go_enter Tryd.func54, Tryd.ntmps54
      go_wp2_with (first
        | (go_at_call 38; refine (in_any _ _ _ _).mono ?_; rintro e w' ⟨rfl, rfl⟩)
        | (go_at_call 55; refine (place_spec _ _ hs).mono ?_; rintro e w' ⟨rfl, rfl⟩))
      go_ret
      exact ⟨ret_bool (by simp [labB, h1, h2]), by first | exact Below.refl _ _ | exact (Below.refl _ _).alloc (Nat.le_refl _) _⟩
  · go_enter Tryd.func54, Tryd.ntmps54
    go_wp2_with (first
      | (go_at_call 38; refine (in_any _ _ _ _).mono ?_; rintro e w' ⟨rfl, rfl⟩)
      | (go_at_call 55; refine (place_spec _ _ hs).mono ?_; rintro e w' ⟨rfl, rfl⟩))
    go_ret
    exact ⟨ret_bool (by simp [labB, h1]), by first | exact Below.refl _ _ | exact (Below.refl _ _).alloc (Nat.le_refl _) _⟩
set_option maxHeartbeats 1000000 in
theorem label_impl (a b : Int) (s : ByteArray) (w : World) (hs : s.size ≤ maxLen) :
    Calls Tryd.prog 61 #[.agg #[.int .i64 a, .int .i64 b, .string s]] w fun e w' => e = .returned (.bool (labB a b s.data.toList)) ∧ Below w.heap.size w w' := by
  by_cases h1 : 1 ≤ a <;> by_cases h2 : a ≤ 3 <;> by_cases h3 : 0 ≤ b <;> by_cases h4 : b ≤ 999999999
  all_goals first
    | (exfalso; omega)
    | (go_enter Tryd.func61, Tryd.ntmps61
       go_wp2_with (go_at_call 62; refine (place_impl _ _ hs).mono ?_; rintro e w' ⟨rfl, rfl⟩)
       go_ret
       exact ⟨ret_bool (by simp [labB, inB, h1, h2, h3, h4] <;> (intros; omega)), by first | exact Below.refl _ _ | exact (Below.refl _ _).alloc (Nat.le_refl _) _⟩)
set_option maxHeartbeats 400000 in
theorem sz_big (a b : Int) (s : ByteArray) (left : Int) (w : World) (hs : s.size ≤ maxLen) (hl : 0 ≤ left ∧ left ≤ 1048576) (h : left < s.size) :
    Calls Tryd.prog 24 #[.agg #[.int .i64 a, .int .i64 b, .string s], .int .i64 left] w fun e w' => e = .returned (.int .i64 (-1)) ∧ Below w.heap.size w w' := by
  unfold maxLen at hs
  obtain ⟨hl0, hl1⟩ := hl
  have h' : left - (s.size : Int) < 0 := by omega
  go_enter Tryd.func24, Tryd.ntmps24
  go_wp2
  go_ret
  exact ⟨rfl, (Below.refl _ _).alloc (Nat.le_refl _) _⟩
set_option maxHeartbeats 400000 in
theorem sz_ok (a b : Int) (s : ByteArray) (left : Int) (w : World) (hs : s.size ≤ maxLen) (hl : 0 ≤ left ∧ left ≤ 1048576) (h : s.size ≤ left) :
    Calls Tryd.prog 24 #[.agg #[.int .i64 a, .int .i64 b, .string s], .int .i64 left] w fun e w' => e = .returned (.int .i64 (left - s.size)) ∧ Below w.heap.size w w' := by
  unfold maxLen at hs
  obtain ⟨hl0, hl1⟩ := hl
  have h' : ¬ left - (s.size : Int) < 0 := by omega
  go_enter Tryd.func24, Tryd.ntmps24
  go_wp2
  go_ret
  exact ⟨rfl, (Below.refl _ _).alloc (Nat.le_refl _) _⟩
set_option maxHeartbeats 400000 in
theorem to_label (a b : Int) (s : ByteArray) (w : World) :
    Calls Tryd.prog 29 #[.agg #[.int .i64 a, .int .i64 b, .string s]] w fun e w' => e = .returned (.agg #[.int .i64 a, .int .i64 b, .string s]) ∧ Below w.heap.size w w' := by
  go_enter Tryd.func29, Tryd.ntmps29
  go_wp2
  exact bodyPost_ret (v := .agg #[.int .i64 a, .int .i64 b, .string s]) (by simp [results, Tryd.results29, go_sem]) rfl ⟨rfl, (((Below.refl _ _).alloc (Nat.le_refl _) _).alloc (by simp) _).alloc (by simp; omega) _⟩
end Go.Proofs.YtichnpjpldkceaaDoor
