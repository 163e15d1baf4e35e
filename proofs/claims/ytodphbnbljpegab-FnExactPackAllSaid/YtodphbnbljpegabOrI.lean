/- cmp.Or at two numbers. -/
import Derived.Test.YtodphbnbljpegabMapN
namespace Go.Proofs.Ytodphbnbljpegab
open Go.RowKit
def orZ (a b : Int) : Int := if a = 0 then b else a
set_option maxRecDepth 100000 in
set_option maxHeartbeats 1000000 in
theorem or_two (a b : Int) (g c : Nat) (w : World) (h0 : w.cell? ⟨g, 0, none⟩ = some (.int .i64 a)) (h1 : w.cell? ⟨g, 1, none⟩ = some (.int .i64 b)) :
    Calls Try.prog 130 #[.slice (some ⟨g, 0, none⟩) 2 c] w fun e w' => e = .returned (.int .i64 (orZ a b)) ∧ w' = w := by
  have hO1 : a ≠ 0 → orZ a b = a := fun h => if_neg h
  have hO2 : a = 0 → orZ a b = b := fun h => if_pos h
  generalize orZ a b = R at *
  go_enter Try.func130, Try.ntmps130
  go_wp2
  go_loopw [8] (fun i wr => ∃ k : Nat, k ≤ 2 ∧ i = .int .i64 k ∧ wr = w ∧ (0 < k → a = 0) ∧ (1 < k → b = 0)) (fun i _ => 2 - (intOf i).toNat)
  case atStart => exact ⟨0, by omega, rfl, rfl, by omega, by omega⟩
  case round =>
    obtain ⟨k, hk, rfl, rfl, ha, hb⟩ := hrel
    have hkc : k = 0 ∨ k = 1 ∨ k = 2 := by omega
    rcases hkc with rfl | rfl | rfl
    · by_cases h : a = 0
      · subst h
        go_wp2
        go_roundw
        case rel => exact ⟨1, by omega, by go_num, by simp, by simp, by simp⟩
        case measure => simp [intOf]
      · have hd : (a == 0) = false := beq_eq_false_iff_ne.2 h
        have hd2 : (a != 0) = true := by simp [h]
        go_wp2
        go_ret
        exact ⟨by rw [hO1 h]; rfl, rfl⟩
    · have ha0 := ha (by omega)
      by_cases h : b = 0
      · subst h
        go_wp2
        go_roundw
        case rel => exact ⟨2, by omega, by go_num, by simp, by simp [ha0], by simp⟩
        case measure => simp [intOf]
      · have hd : (b == 0) = false := beq_eq_false_iff_ne.2 h
        have hd2 : (b != 0) = true := by simp [h]
        go_wp2
        go_ret
        exact ⟨by rw [hO2 ha0]; rfl, rfl⟩
    · have ha0 := ha (by omega); have hb0 := hb (by omega)
      go_wp2
      go_ret
      exact ⟨by rw [hO2 ha0, hb0]; rfl, rfl⟩
end Go.Proofs.Ytodphbnbljpegab
