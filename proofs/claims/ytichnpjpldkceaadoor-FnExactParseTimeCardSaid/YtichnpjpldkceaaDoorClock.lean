/- Contracts of the two texts that write a minute of a day, and of FormatTime. -/
import Derived.Test.YtichnpjpldkceaaDoorPad
import Derived.Test.YtichnpjpldkceaaDoorFmt
namespace Go.Proofs.YtichnpjpldkceaaDoor
open Go.RowKit
theorem padS_size2 (n : Nat) (h : n < 100) : (padS 2 n).size = 2 := by
  have h1 := lowD_pad 2 n (by omega) (by omega)
  have h2 := lowD_len 2 n
  show (padL 2 n).toArray.size = 2
  rw [List.size_toArray, ← h1, h2]
theorem dec_len2 (n : Nat) (h : n < 100) : (Lib.decDigits n).length ≤ 2 := by
  by_cases h1 : n < 10
  · rw [dec_last n h1]; simp
  · rw [dec_step n (by omega), dec_last (n / 10) (by omega)]; simp
theorem itoaS_size (n : Int) (h : -9223372036854775808 ≤ n ∧ n ≤ 9223372036854775807) : (itoaS n).size ≤ 21 := by
  show (Lib.itoa n).toArray.size ≤ 21
  rw [List.size_toArray]; exact Lib.itoa_length_le n h.1 h.2
def clk (x : Int) : ByteArray := padS 2 (x / 60).toNat ++ ⟨#[58]⟩ ++ padS 2 (x % 60).toNat
def timeS (t : Int) : ByteArray := itoaS (t / 1440) ++ ⟨#[32]⟩ ++ clk (t % 1440)
theorem clk_size (x : Int) (h : 0 ≤ x ∧ x ≤ 1439) : (clk x).size = 5 := by
  unfold clk
  rw [ByteArray.size_append, ByteArray.size_append, padS_size2 _ (by omega), padS_size2 _ (by omega)]
  rfl
theorem pad2_spec (x : Int) (h : 0 ≤ x ∧ x ≤ 99) (w : World) :
    Calls Tryd.prog 59 #[.int .i64 x, .int .i64 2] w fun e w' => e = .returned (.string (padS 2 x.toNat)) ∧ Below w.heap.size w w' := by
  obtain ⟨n, rfl⟩ : ∃ n : Nat, x = n := ⟨x.toNat, by omega⟩
  rw [Int.toNat_natCast]
  exact pad_spec n 2 w (by omega) (by omega) (dec_len2 n (by omega))
theorem pad2_impl (x : Int) (h : 0 ≤ x ∧ x ≤ 99) (w : World) :
    Calls Tryd.prog 66 #[.int .i64 x, .int .i64 2] w fun e w' => e = .returned (.string (padS 2 x.toNat)) ∧ Below w.heap.size w w' := by
  obtain ⟨n, rfl⟩ : ∃ n : Nat, x = n := ⟨x.toNat, by omega⟩
  rw [Int.toNat_natCast]
  exact pad_impl n 2 w (by omega) (by omega) (by omega) (by omega)
set_option maxRecDepth 100000 in
set_option maxHeartbeats 1000000 in
theorem clock_spec (x : Int) (h : 0 ≤ x ∧ x ≤ 1439) (w : World) :
    Calls Tryd.prog 39 #[.int .i64 x] w fun e w' => e = .returned (.string (clk x)) ∧ Below w.heap.size w w' := by
  obtain ⟨h0, h1⟩ := h
  have HP := Lib.hid (fun W => pad2_spec (x / 60) (by omega) W)
  have HQ := Lib.hid (fun W => pad2_spec (x % 60) (by omega) W)
  have HR := Lib.hid (show clk x = padS 2 (x / 60).toNat ++ ⟨#[58]⟩ ++ padS 2 (x % 60).toNat from rfl)
  have hp : (padS 2 (x / 60).toNat).size ≤ 2 := by rw [padS_size2 _ (by omega)]; omega
  have hq : (padS 2 (x % 60).toNat).size ≤ 2 := by rw [padS_size2 _ (by omega)]; omega
  generalize padS 2 (x / 60).toNat = p at *
  generalize padS 2 (x % 60).toNat = q at *
  have hl1 : ¬ 9223372036854775807 < p.size + 1 := by omega
  have hl2 : ¬ 9223372036854775807 < p.size + 1 + q.size := by omega
  go_enter Tryd.func39, Tryd.ntmps39
  go_wp2_with fail
  refine (HP.out _).mono ?_; rintro e w1 ⟨rfl, hb1⟩
  go_wp2_with fail
  refine (HQ.out _).mono ?_; rintro e w2 ⟨rfl, hb2⟩
  go_wp2
  go_ret
  exact ⟨ret_str' HR.out.symm, hb1.trans (hb2.mono hb1.size)⟩
set_option maxRecDepth 100000 in
set_option maxHeartbeats 1000000 in
theorem clock_impl (x : Int) (h : 0 ≤ x ∧ x ≤ 1439) (w : World) :
    Calls Tryd.prog 40 #[.int .i64 x] w fun e w' => e = .returned (.string (clk x)) ∧ Below w.heap.size w w' := by
  obtain ⟨h0, h1⟩ := h
  have HP := Lib.hid (fun W => pad2_impl (x / 60) (by omega) W)
  have HQ := Lib.hid (fun W => pad2_impl (x % 60) (by omega) W)
  have HR := Lib.hid (show clk x = padS 2 (x / 60).toNat ++ ⟨#[58]⟩ ++ padS 2 (x % 60).toNat from rfl)
  have hp : (padS 2 (x / 60).toNat).size ≤ 2 := by rw [padS_size2 _ (by omega)]; omega
  have hq : (padS 2 (x % 60).toNat).size ≤ 2 := by rw [padS_size2 _ (by omega)]; omega
  generalize padS 2 (x / 60).toNat = p at *
  generalize padS 2 (x % 60).toNat = q at *
  have hl1 : ¬ 9223372036854775807 < p.size + 1 := by omega
  have hl2 : ¬ 9223372036854775807 < p.size + 1 + q.size := by omega
  go_enter Tryd.func40, Tryd.ntmps40
  go_wp2_with fail
  refine (HP.out _).mono ?_; rintro e w1 ⟨rfl, hb1⟩
  go_wp2_with fail
  refine (HQ.out _).mono ?_; rintro e w2 ⟨rfl, hb2⟩
  go_wp2
  go_ret
  exact ⟨ret_str' HR.out.symm, hb1.trans (hb2.mono hb1.size)⟩
def fmtT (t : Int) : ByteArray := if inB t 0 100000 then timeS t else ⟨#[]⟩
set_option maxRecDepth 100000 in
set_option maxHeartbeats 1000000 in
theorem time_spec (t : Int) (w : World) :
    Calls Tryd.prog 13 #[.int .i64 t] w fun e w' => e = .returned (.string (fmtT t)) ∧ Below w.heap.size w w' := by
  have HI := Lib.hid (fun W => in_any t 0 100000 W)
  cases hi : inB t 0 100000 with
  | false =>
    have HR := Lib.hid (show fmtT t = ⟨#[]⟩ by unfold fmtT; rw [hi]; rfl)
    rw [hi] at HI; clear hi
    go_enter Tryd.func13, Tryd.ntmps13
    go_wp2_with fail
    refine (HI.out _).mono ?_; rintro e w1 ⟨rfl, rfl⟩
    go_wp2
    go_ret
    exact ⟨ret_str' HR.out.symm, Below.refl _ _⟩
  | true =>
    obtain ⟨h0, h1⟩ := inB_iff.1 hi
    have HR := Lib.hid (show fmtT t = itoaS (t / 1440) ++ ⟨#[32]⟩ ++ clk (t % 1440) by unfold fmtT; rw [hi]; rfl)
    rw [hi] at HI; clear hi
    have HP := Lib.hid (fun W => fmt_spec (t / 1440) W (by omega))
    have HQ := Lib.hid (fun W => clock_spec (t % 1440) (by omega) W)
    have hp := itoaS_size (t / 1440) (by omega)
    have hq := clk_size (t % 1440) (by omega)
    generalize itoaS (t / 1440) = p at *
    generalize clk (t % 1440) = q at *
    have hl1 : ¬ 9223372036854775807 < p.size + 1 := by omega
    have hl2 : ¬ 9223372036854775807 < p.size + 1 + q.size := by omega
    have hq' : q.size ≤ 5 := by omega
    clear hq
    go_enter Tryd.func13, Tryd.ntmps13
    go_wp2_with fail
    refine (HI.out _).mono ?_; rintro e w1 ⟨rfl, rfl⟩
    go_wp2_with fail
    refine (HP.out _).mono ?_; rintro e w1 ⟨rfl, hb1⟩
    go_wp2_with fail
    refine (HQ.out _).mono ?_; rintro e w2 ⟨rfl, hb2⟩
    go_wp2
    go_ret
    exact ⟨ret_str' HR.out.symm, hb1.trans (hb2.mono hb1.size)⟩
set_option maxRecDepth 100000 in
set_option maxHeartbeats 1000000 in
theorem time_impl (t : Int) (w : World) (htab : PowIs w) :
    Calls Tryd.prog 14 #[.int .i64 t] w fun e w' => e = .returned (.string (fmtT t)) ∧ Below w.heap.size w w' := by
  have HT := Lib.hid htab; clear htab
  by_cases h0 : t < 0
  · have HR := Lib.hid (show fmtT t = ⟨#[]⟩ by unfold fmtT; rw [inB_not.2 (by omega)]; rfl)
    go_enter Tryd.func14, Tryd.ntmps14
    go_wp2
    go_ret
    exact ⟨ret_str' HR.out.symm, Below.refl _ _⟩
  by_cases h1 : 100000 < t
  · have HR := Lib.hid (show fmtT t = ⟨#[]⟩ by unfold fmtT; rw [inB_not.2 (by omega)]; rfl)
    go_enter Tryd.func14, Tryd.ntmps14
    go_wp2
    go_ret
    exact ⟨ret_str' HR.out.symm, Below.refl _ _⟩
  have HR := Lib.hid (show fmtT t = itoaS (t / 1440) ++ ⟨#[32]⟩ ++ clk (t % 1440) by unfold fmtT; rw [inB_iff.2 (by omega)]; rfl)
  have HP := Lib.hid (fmt_impl (t / 1440) (by omega) w HT.out)
  have HQ := Lib.hid (fun W => clock_impl (t % 1440) (by omega) W)
  have hp := itoaS_size (t / 1440) (by omega)
  have hq := clk_size (t % 1440) (by omega)
  generalize itoaS (t / 1440) = p at *
  generalize clk (t % 1440) = q at *
  have hl1 : ¬ 9223372036854775807 < p.size + 1 := by omega
  have hl2 : ¬ 9223372036854775807 < p.size + 1 + q.size := by omega
  have hq' : q.size ≤ 5 := by omega
  have ht0 : 0 ≤ t := by omega
  have ht1 : t ≤ 100000 := by omega
  clear hq
  go_enter Tryd.func14, Tryd.ntmps14
  go_wp2_with fail
  refine HP.out.mono ?_; rintro e w1 ⟨rfl, hb1⟩
  go_wp2_with fail
  refine (HQ.out _).mono ?_; rintro e w2 ⟨rfl, hb2⟩
  go_wp2
  go_ret
  exact ⟨ret_str' HR.out.symm, hb1.trans (hb2.mono hb1.size)⟩
end Go.Proofs.YtichnpjpldkceaaDoor
