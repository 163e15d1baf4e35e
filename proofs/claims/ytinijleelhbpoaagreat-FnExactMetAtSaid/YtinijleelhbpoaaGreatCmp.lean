/- Contracts of the two texts of CompareLabels. -/
import Derived.Test.YtinijleelhbpoaaGreatBa
import Derived.Deep.RegionWith
namespace Go.Proofs.YtinijleelhbpoaaGreat
open Go.RowKit
def cmpI (a b : Int) : Int := if a < b then -1 else if b < a then 1 else 0
def cmpS (s t : ByteArray) : Int := if Op.bytesLess s.toList t.toList = true then -1 else if s.toList = t.toList then 0 else 1
def orI (p q r : Int) : Int := if p ≠ 0 then p else if q ≠ 0 then q else r
def cmpL (a b : Int) (s : ByteArray) (a' b' : Int) (t : ByteArray) : Int := orI (cmpI a a') (cmpI b b') (cmpS s t)
set_option maxHeartbeats 400000 in
theorem cmp_str (s t : ByteArray) (w : World) :
  Calls Tryz.prog 81 #[.string s, .string t] w fun e w' => e = .returned (.int .i64 (cmpS s t)) ∧ w = w' := by
 go_enter Tryz.func81, Tryz.ntmps81
 go_wp2
 ·have h : Op.bytesLess s.toList t.toList = true := by assumption
  go_ret
  exact ⟨ret_int (by simp [cmpS, h]), rfl⟩
 ·have h : Op.bytesLess s.toList t.toList = false := by assumption
  have h2 : (!s.toList == t.toList) = true := by assumption
  have h3 : ¬ s.toList = t.toList := by simpa using h2
  go_ret
  exact ⟨ret_int (by simp only [cmpS, h]; rw [if_neg (by decide), if_neg h3]), rfl⟩
 ·have h : Op.bytesLess s.toList t.toList = false := by assumption
  have h2 : (!s.toList == t.toList) = false := by assumption
  have h3 : s.toList = t.toList := by simpa using h2
  go_ret
  exact ⟨ret_int (by simp only [cmpS, h]; rw [if_neg (by decide), if_pos h3]), rfl⟩
set_option maxHeartbeats 400000 in
theorem cmp_int (a b : Int) (w : World) :
  Calls Tryz.prog 80 #[.int .i64 a, .int .i64 b] w fun e w' => e = .returned (.int .i64 (cmpI a b)) ∧ w = w' := by
 have h0 : (a != a) = false := by simp
 have h1 : (b != b) = false := by simp
 go_enter Tryz.func80, Tryz.ntmps80
 go_wp2
 ·have h : a < b := by assumption
  go_ret
  exact ⟨ret_int (by unfold cmpI; rw [if_pos h]), rfl⟩
 ·have h2 : b < a := by assumption
  go_ret
  exact ⟨ret_int (by unfold cmpI; rw [if_neg (by omega), if_pos h2]), rfl⟩
 ·have h : ¬ a < b := by first | assumption | omega
  have h2 : ¬ b < a := by first | assumption | omega
  go_ret
  exact ⟨ret_int (by unfold cmpI; rw [if_neg h, if_neg h2]), rfl⟩
set_option maxHeartbeats 400000 in
theorem or_int (p q r : Int) (g : Nat) (w : World) (c0 : w.cell? ⟨g, 0, none⟩ = some (.int .i64 p)) (c1 : w.cell? ⟨g, 1, none⟩ = some (.int .i64 q)) (c2 : w.cell? ⟨g, 2, none⟩ = some (.int .i64 r)) :
  Calls Tryz.prog 79 #[.slice (some ⟨g, 0, none⟩) 3 3] w fun e w' => e = .returned (.int .i64 (orI p q r)) ∧ w = w' := by
 go_enter Tryz.func79, Tryz.ntmps79
 go_wp2
 go_loop [8] (fun i => ∃ k : Nat, k ≤ 3 ∧ i = .int .i64 k ∧ (1 ≤ k → p = 0) ∧ (2 ≤ k → q = 0) ∧ (3 ≤ k → r = 0)) (fun i => 3 - (intOf i).toNat)
 case atStart => exact ⟨0, by omega, rfl, fun h => absurd h (by omega), fun h => absurd h (by omega), fun h => absurd h (by omega)⟩
 case round =>
  obtain ⟨k, hk, rfl, h1, h2, h3⟩ := hrel
  have H1 := Lib.hid h1; have H2 := Lib.hid h2; have H3 := Lib.hid h3
  clear h1 h2 h3
  have hcase : k = 0 ∨ k = 1 ∨ k = 2 ∨ k = 3 := by omega
  rcases hcase with rfl | rfl | rfl | rfl
  ·by_cases h : p = 0
   ·have hb : (p != 0) = false := by simp [h]
    have HH := Lib.hid h
    clear h
    go_wp2
    go_round
    case rel => exact ⟨1, by omega, rfl, fun _ => HH.out, fun h => absurd h (by omega), fun h => absurd h (by omega)⟩
    case measure => simp [intOf]
   ·have hb : (p != 0) = true := by simp [h]
    go_wp2
    go_ret
    exact ⟨ret_int (by unfold orI; rw [if_pos h]), rfl⟩
  ·by_cases h : q = 0
   ·have hb : (q != 0) = false := by simp [h]
    have HH := Lib.hid h
    clear h
    go_wp2
    go_round
    case rel => exact ⟨2, by omega, rfl, fun _ => H1.out (by omega), fun _ => HH.out, fun h => absurd h (by omega)⟩
    case measure => simp [intOf]
   ·have hb : (q != 0) = true := by simp [h]
    go_wp2
    go_ret
    exact ⟨ret_int (by unfold orI; rw [if_neg (by simp [H1.out (by omega)]), if_pos h]), rfl⟩
  ·by_cases h : r = 0
   ·have hb : (r != 0) = false := by simp [h]
    have HH := Lib.hid h
    clear h
    go_wp2
    go_round
    case rel => exact ⟨3, by omega, rfl, fun _ => H1.out (by omega), fun _ => H2.out (by omega), fun _ => HH.out⟩
    case measure => simp [intOf]
   ·have hb : (r != 0) = true := by simp [h]
    go_wp2
    go_ret
    exact ⟨ret_int (by unfold orI; rw [if_neg (by simp [H1.out (by omega)]), if_neg (by simp [H2.out (by omega)])]), rfl⟩
  ·go_wp2
   go_ret
   exact ⟨ret_int (by unfold orI; rw [if_neg (by simp [H1.out (by omega)]), if_neg (by simp [H2.out (by omega)]), H3.out (by omega)]), rfl⟩
end Go.Proofs.YtinijleelhbpoaaGreat
