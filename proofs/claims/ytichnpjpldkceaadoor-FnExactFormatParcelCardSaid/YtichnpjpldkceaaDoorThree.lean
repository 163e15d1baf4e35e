/- Contracts of the two texts that tell three sides, and of the two of VolumeOf. -/
import Derived.Test.YtichnpjpldkceaaDoorInts
import Derived.Test.YtichnpjpldkceaaDoorBytes
namespace Go.Proofs.YtichnpjpldkceaaDoor
open Go.RowKit
theorem all_snocI {l : List Int} {f : Int → Bool} (k : Nat) (h : k < l.length) (ha : (l.take k).all f = true) (hk : f l[k] = true) : (l.take (k + 1)).all f = true := by
  rw [List.take_succ_eq_append_getElem h, List.all_append, ha]; simp [hk]
theorem thrB_yes {l : List Int} (h : l.length = 3) (ha : (l.take l.length).all sideB = true) : thrB l = true := by
  rw [List.take_length] at ha
  unfold thrB; rw [ha, h]; rfl
set_option maxHeartbeats 400000 in
theorem three_impl (A : Option Addr) (cap : Nat) (zs : List Int) (w : World) (hA : IntsIn w A zs) (hn : zs.length ≤ 17592186044415) :
    Calls Tryd.prog 63 #[.slice A zs.length cap] w fun e w' => e = .returned (.bool (thrB zs)) ∧ w = w' := by
  have HA := Lib.hid hA; clear hA
  by_cases h3 : zs.length = 3
  · have hb : ((zs.length : Int) != 3) = false := by simp [h3]
    have hlo : 3 ≤ zs.length := by omega
    have hhi : zs.length ≤ 3 := by omega
    have H3 := Lib.hid h3; clear h3
    go_enter Tryd.func63, Tryd.ntmps63
    go_wp2
    go_loop [10] (fun i => ∃ k : Nat, k ≤ zs.length ∧ i = .int .i64 k ∧ (zs.take k).all sideB = true) (fun i => zs.length - (intOf i).toNat)
    case atStart => exact ⟨0, Nat.zero_le _, rfl, rfl⟩
    case round =>
      obtain ⟨k, hk, rfl, hall⟩ := hrel
      have HL := Lib.hid hall; clear hall
      by_cases hlt : (k : Int) < (zs.length : Int)
      · have hkn : k < zs.length := by omega
        obtain ⟨ad, rfl, _, k1⟩ := HA.out k hkn
        obtain ⟨x, hx⟩ : ∃ x, x = zs[k] := ⟨_, rfl⟩
        rw [← hx] at k1
        have HX := Lib.hid hx; clear hx
        by_cases h1 : x < 1
        · go_wp2
          go_ret
          exact ⟨ret_bool (Eq.symm (thrB_no k hkn (by rw [← HX.out]; rw [sideB, inB_not]; omega))), rfl⟩
        · by_cases h2 : 2000 < x
          · go_wp2
            go_ret
            exact ⟨ret_bool (Eq.symm (thrB_no k hkn (by rw [← HX.out]; rw [sideB, inB_not]; omega))), rfl⟩
          · go_wp2
            go_round
            case rel => exact ⟨k + 1, by omega, by go_num, all_snocI k hkn HL.out (by rw [← HX.out]; rw [sideB, inB_iff]; omega)⟩
            case measure => simp [intOf]; omega
      · obtain rfl : k = zs.length := by omega
        go_wp2
        go_ret
        exact ⟨ret_bool (thrB_yes H3.out HL.out).symm, rfl⟩
  · have hb : ((zs.length : Int) != 3) = true := by simp; omega
    go_enter Tryd.func63, Tryd.ntmps63
    go_wp2
    go_ret
    exact ⟨ret_bool (thrB_len h3).symm, rfl⟩
set_option maxHeartbeats 400000 in
theorem three_spec (A : Option Addr) (cap : Nat) (zs : List Int) (w : World) (hA : IntsIn w A zs) (hn : zs.length ≤ 17592186044415) :
    Calls Tryd.prog 56 #[.slice A zs.length cap] w fun e w' => e = .returned (.bool (thrB zs)) ∧ w = w' := by
  have HA := Lib.hid hA; clear hA
  go_enter Tryd.func56, Tryd.ntmps56
  go_wp2
  go_loop [3] (fun i => ∃ k : Nat, k ≤ zs.length ∧ i = .int .i64 k ∧ (zs.take k).all sideB = true) (fun i => zs.length - (intOf i).toNat)
  case atStart => exact ⟨0, Nat.zero_le _, rfl, rfl⟩
  case round =>
    obtain ⟨k, hk, rfl, hall⟩ := hrel
    have HL := Lib.hid hall; clear hall
    by_cases hlt : (k : Int) < (zs.length : Int)
    · have hkn : k < zs.length := by omega
      obtain ⟨ad, rfl, _, k1⟩ := HA.out k hkn
      obtain ⟨x, hx⟩ : ∃ x, x = zs[k] := ⟨_, rfl⟩
      rw [← hx] at k1
      have HX := Lib.hid hx; clear hx
      by_cases hs : inB x 1 2000 = true
      · go_wp2_with fail
        refine (in_any _ _ _ _).mono ?_; rintro e w' ⟨rfl, rfl⟩
        go_wp2
        go_round
        case rel => exact ⟨k + 1, by omega, by go_num, all_snocI k hkn HL.out (by rw [← HX.out]; exact hs)⟩
        case measure => simp [intOf]; omega
      · have hs' : inB x 1 2000 = false := by simpa using hs
        clear hs
        go_wp2_with (go_at_call 38; refine (in_any _ _ _ _).mono ?_; rintro e w' ⟨rfl, rfl⟩)
        go_ret
        exact ⟨ret_bool (Eq.symm (thrB_no k hkn (by rw [← HX.out]; exact hs'))), rfl⟩
    · obtain rfl : k = zs.length := by omega
      by_cases h3 : zs.length = 3
      · have hb : ((zs.length : Int) == 3) = true := by simp [h3]
        have H3 := Lib.hid h3; clear h3
        go_wp2
        go_ret
        exact ⟨ret_bool (thrB_yes H3.out HL.out).symm, rfl⟩
      · have hb : ((zs.length : Int) == 3) = false := by simp; omega
        go_wp2
        go_ret
        exact ⟨ret_bool (thrB_len h3).symm, rfl⟩
theorem three_cells {w : World} {A : Option Addr} {a b c : Int} (h : IntsIn w A [a, b, c]) : ∃ g, A = some ⟨g, 0, none⟩ ∧ g < w.heap.size ∧ w.cell? ⟨g, 0, none⟩ = some (.int .i64 a) ∧ w.cell? ⟨g, 1, none⟩ = some (.int .i64 b) ∧ w.cell? ⟨g, 2, none⟩ = some (.int .i64 c) := by
  obtain ⟨ad, rfl, h0, h1⟩ := h 0 (by simp)
  obtain ⟨_, e, _, h2⟩ := h 1 (by simp)
  obtain ⟨_, e', _, h3⟩ := h 2 (by simp)
  cases e; cases e'
  exact ⟨ad, rfl, h0, h1, h2, h3⟩
theorem mul3_bd {a b c : Int} (ha : 1 ≤ a ∧ a ≤ 2000) (hb : 1 ≤ b ∧ b ≤ 2000) (hc : 1 ≤ c ∧ c ≤ 2000) : 0 ≤ a * b ∧ a * b ≤ 4000000 ∧ 0 ≤ a * b * c ∧ a * b * c ≤ 8000000000 := by
  have h1 : 0 ≤ a * b := Int.mul_nonneg (by omega) (by omega)
  have h2 : a * b ≤ 2000 * 2000 := Int.mul_le_mul (by omega) (by omega) (by omega) (by omega)
  have h3 : 0 ≤ a * b * c := Int.mul_nonneg h1 (by omega)
  have h4 : a * b * c ≤ 2000 * 2000 * 2000 := Int.mul_le_mul h2 (by omega) (by omega) (by omega)
  omega
end Go.Proofs.YtichnpjpldkceaaDoor
