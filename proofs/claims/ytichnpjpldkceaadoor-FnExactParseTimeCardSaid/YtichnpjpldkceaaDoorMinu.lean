/- The contract of spec.l3Minute. -/
import Derived.Test.YtichnpjpldkceaaDoorPClk
namespace Go.Proofs.YtichnpjpldkceaaDoor
open Go.RowKit
def minN (l : List UInt8) : Nat → Int
  | 0 => 0
  | k + 1 => if k = 2 then minN l k else 10 * minN l k + ((l.getD k 0).toNat : Int) - 48
theorem minN_bd (l : List UInt8) : ∀ k, -(60 * (10 : Int) ^ k) + 10 ≤ minN l k ∧ minN l k ≤ 300 * (10 : Int) ^ k - 100
  | 0 => by simp [minN]
  | k + 1 => by
    obtain ⟨h1, h2⟩ := minN_bd l k
    have := (l.getD k 0).toNat_lt
    have h3 : (0 : Int) < 10 ^ k := Int.pow_pos (by omega)
    unfold minN
    rw [Int.pow_succ]
    generalize (10 : Int) ^ k = t at *
    split <;> omega
theorem minN_small (l : List UInt8) (k : Nat) (hk : k ≤ 5) : -6000000 ≤ minN l k ∧ minN l k ≤ 30000000 := by
  have h := minN_bd l k
  have h1 : (10 : Int) ^ k ≤ 100000 := by
    have := Nat.pow_le_pow_right (show 0 < 10 by omega) hk
    have e : ((10 ^ k : Nat) : Int) = (10 : Int) ^ k := by norm_cast
    omega
  omega
theorem minN_clk {s : ByteArray} {m : Int} (h : IsClk s m) : minN s.data.toList 5 = 100 * (m / 60) + m % 60 := by
  obtain ⟨hb, h⟩ := h
  rw [clk_list, ← lowD_pad 2 (m / 60).toNat (by omega) (by omega), ← lowD_pad 2 (m % 60).toNat (by omega) (by omega)] at h
  rw [← h]
  have e : ∀ n, n < 10 → ((UInt8.ofNat (48 + n)).toNat : Int) = 48 + n := fun n hn => by
    rw [UInt8.toNat_ofNat', Nat.mod_eq_of_lt (by omega)]; omega
  have e1 := e ((m / 60).toNat / 10 % 10) (by omega)
  have e2 := e ((m / 60).toNat % 10) (by omega)
  have e3 := e ((m % 60).toNat / 10 % 10) (by omega)
  have e4 := e ((m % 60).toNat % 10) (by omega)
  simp only [lowD, minN, List.cons_append, List.nil_append, List.getD_cons_zero, List.getD_cons_succ, Nat.pow_zero, Nat.div_one, Nat.pow_one]
  simp only [Nat.reduceEqDiff, if_false, if_true, e1, e2, e3, e4]
  simp
  omega
set_option maxRecDepth 100000 in
set_option maxHeartbeats 2000000 in
theorem minu_spec (s : ByteArray) (w : World) :
    Calls Tryd.prog 43 #[.string s] w fun e w' => ((∃ m : Int, IsClk s m ∧ e = .returned (.int .i64 m)) ∨ ((∀ m, ¬ IsClk s m) ∧ e = .returned (.int .i64 (-1)))) ∧ Below w.heap.size w w' := by
  by_cases h5 : s.size = 5
  · have hq : ((s.size : Int) != 5) = false := by simp; omega
    have hlo : 5 ≤ s.size := by omega
    have hhi : s.size ≤ 5 := by omega
    have HU := Lib.hid (fun m (h : IsClk s m) => minN_clk h)
    have H5 := Lib.hid h5; clear h5
    go_enter Tryd.func43, Tryd.ntmps43
    go_wp2
    go_loop [3, 4] (fun n i => ∃ k : Nat, k ≤ 5 ∧ i = .int .i64 k ∧ n = .int .i64 (minN s.data.toList k)) (fun _ i => 5 - (intOf i).toNat)
    case atStart => exact ⟨0, Nat.zero_le _, rfl, rfl⟩
    case round =>
      obtain ⟨k, hk, rfl, rfl⟩ := hrel
      have hq1 := minN_small s.data.toList k hk
      have HS := Lib.hid (show minN s.data.toList (k + 1) = if k = 2 then minN s.data.toList k else 10 * minN s.data.toList k + ((s.data.toList.getD k 0).toNat : Int) - 48 from by rw [minN])
      generalize hqe : minN s.data.toList k = q at *
      have HQ := Lib.hid hqe; clear hqe
      by_cases hk5 : (k : Int) < 5
      · have hks : (k : Int) < (s.size : Int) := by omega
        have hkn : k < s.size := by omega
        have hg : s.data.toList.getD k 0 = s[k] := by rw [List.getD_eq_getElem?_getD, List.getElem?_eq_getElem (by simpa using hkn)]; rfl
        rw [hg] at HS
        clear hg
        have hbb := s[k].toNat_lt
        by_cases h2 : k = 2
        · subst h2
          have HT := Lib.hid (show minN s.data.toList 3 = q from by rw [HS.out]; rfl)
          go_wp2
          go_round
          case rel => exact ⟨3, by omega, by go_num, val_int HT.out.symm⟩
          case measure => simp [intOf]
        · have HT := Lib.hid (show minN s.data.toList (k + 1) = 10 * q + (s[k].toNat : Int) - 48 from by rw [HS.out, if_neg h2])
          have h2' : ((k : Int) != 2) = true := by simp; omega
          go_wp2
          go_round
          case rel => exact ⟨k + 1, by omega, by go_num, val_int (by rw [HT.out])⟩
          case measure => simp [intOf]; omega
      · obtain rfl : k = 5 := by omega
        obtain ⟨x, hx⟩ : ∃ x, wrap64 (wrap64 (q.tdiv 100 * 60) + q.tmod 100) = x := ⟨_, rfl⟩
        have HX : Hid (∀ m, IsClk s m → x = m) := fun m h => by
          have h1 := HU.out m h
          rw [HQ.out] at h1
          have := h.1
          have d1 : q / 100 = m / 60 := by omega
          have d2 : q % 100 = m % 60 := by omega
          rw [← hx, Int.tdiv_eq_ediv_of_nonneg (by omega), Int.tmod_eq_emod_of_nonneg (by omega), d1, d2, IntWalk.wrap64_in (m / 60 * 60) (by omega), IntWalk.wrap64_in _ (by omega)]; omega
        clear HS
        go_wp2_with fail
        refine (in_any x 0 1439 _).mono ?_; rintro e w1 ⟨rfl, rfl⟩
        cases hi : inB x 0 1439 with
        | false =>
          have HI := Lib.hid (inB_not.1 hi); clear hi
          go_wp2
          go_ret
          exact ⟨.inr ⟨fun m h => HI.out (by have := HX.out m h; have := h.1; omega), rfl⟩, Below.refl _ _⟩
        | true =>
          obtain ⟨h0, h1⟩ := inB_iff.1 hi
          clear hi
          go_wp2_with fail
          refine (clock_spec x (by omega) _).mono ?_; rintro e w3 ⟨rfl, hb4⟩
          by_cases he : (clk x).toList = s.toList
          · have hne : ((clk x).toList != s.toList) = false := by simpa using he
            have hne2 : ((clk x).toList == s.toList) = true := by simpa using he
            rw [ByteArray.toList_eq, ByteArray.toList_eq] at he
            have HE2 := Lib.hid he; clear he
            go_wp2
            go_ret
            exact ⟨.inl ⟨x, ⟨by omega, HE2.out⟩, rfl⟩, hb4⟩
          · have hne : ((clk x).toList != s.toList) = true := by simpa using he
            have hne2 : ((clk x).toList == s.toList) = false := by simpa using he
            rw [ByteArray.toList_eq, ByteArray.toList_eq] at he
            have HE2 := Lib.hid he; clear he
            go_wp2
            go_ret
            refine ⟨.inr ⟨fun m h => ?_, rfl⟩, hb4⟩
            have e := HX.out m h
            subst e
            exact HE2.out h.2
  · have hq : ((s.size : Int) != 5) = true := by simp; omega
    have HN := Lib.hid h5; clear h5
    go_enter Tryd.func43, Tryd.ntmps43
    go_wp2
    go_ret
    exact ⟨.inr ⟨fun m h => HN.out (isClk_at h).1, rfl⟩, Below.refl _ _⟩
end Go.Proofs.YtichnpjpldkceaaDoor
