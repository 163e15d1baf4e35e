/- The walk of the law on AreRates. -/
import Derived.Test.YtakpeakahofjlaaRates2
namespace Go.Proofs.Ytakpeakahofjlaa.fnExactAreRates
open Go.RowKit
set_option maxRecDepth 100000 in
set_option maxHeartbeats 400000 in
theorem walk (A : Option Addr) (cap : Nat) (l : List Rt) (w : World) (hr : RawK 4 rC w A l) (hm : l.length ≤ maxLen) (n : Int) (_hn : -9223372036854775808 ≤ n ∧ n ≤ 9223372036854775807) :
    Calls Try.prog 14 #[.slice A l.length cap, .int .i64 n] w fun e w' => e = .returned (.bool true) ∧ Below w.heap.size w w' := by
  clear _hn
  have HR := Lib.hid hr; clear hr
  have HS := Lib.hid hm; clear hm
  go_enter Try.func14, Try.ntmps14
  go_wp2_with fail
  refine (sz_rates A cap l.length 1048576 w HS.out (by omega)).mono ?_; rintro e w1 ⟨⟨r, rfl, hr⟩, hb1⟩
  rcases hr with rfl | ⟨hr0, hr1, hln⟩
  · go_wp2
    go_ret
    exact ⟨rfl, hb1⟩
  · have hn0 : ¬ r < 0 := by omega
    have hln' : l.length ≤ 1048576 := by omega
    have HR1 := Lib.hid (HR.out.below hb1)
    go_wp2_with fail
    refine (to_rates A cap l w1 HR1.out hln').mono ?_; rintro e w2 ⟨rfl, ho2, hb2⟩
    have HO2 := Lib.hid ho2; clear ho2
    replace hb2 := hb1.trans (hb2.mono hb1.size)
    go_wp2_with fail
    refine (are_rates_spec _ _ l n w2 (HO2.out.ins rC_len).2 hln').mono ?_; rintro e w3 ⟨rfl, hb3⟩
    replace hb3 := hb2.trans (hb3.mono hb2.size)
    have HR3 := Lib.hid (HR.out.below hb3)
    clear hb1 hb2 HR1
    go_wp2_with fail
    refine (to_rates A cap l w3 HR3.out hln').mono ?_; rintro e w4 ⟨rfl, ho4, hb4⟩
    have HO4 := Lib.hid ho4; clear ho4
    replace hb4 := hb3.trans (hb4.mono hb3.size)
    go_wp2_with fail
    refine (are_rates _ _ l n w4 (HO4.out.ins rC_len).2 hln').mono ?_; rintro e w5 ⟨rfl, hb5⟩
    have HO5 := Lib.hid (HO4.out.below hb5)
    replace hb5 := hb4.trans (hb5.mono hb4.size)
    have HR5 := Lib.hid (HR.out.below hb5)
    clear hb3 hb4 HR3 HO4
    have hq : (areRB l n != areRB l n) = false := by simp
    generalize areRB l n = V at *
    go_wp2_with fail
    refine (to_rates A cap l w5 HR5.out hln').mono ?_; rintro e w6 ⟨rfl, ho6, hb6⟩
    have HO6 := Lib.hid ho6; clear ho6
    have HO56 := Lib.hid (HO5.out.below hb6)
    replace hb6 := hb5.trans (hb6.mono hb5.size)
    go_wp2_with fail
    refine (eq_rates _ _ _ _ l w6 (HO56.out.ins rC_len).2 (HO6.out.ins rC_len).2 hln').mono ?_; rintro e w7 ⟨rfl, hb7⟩
    go_wp2
    go_ret
    exact ⟨rfl, hb6.trans (hb7.mono hb6.size)⟩
end Go.Proofs.Ytakpeakahofjlaa.fnExactAreRates
