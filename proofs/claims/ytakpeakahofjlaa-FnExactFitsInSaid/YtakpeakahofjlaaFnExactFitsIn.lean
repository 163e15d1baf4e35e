/- The walk of the law on FitsIn. -/
import Derived.Test.YtakpeakahofjlaaFits
namespace Go.Proofs.Ytakpeakahofjlaa.fnExactFitsIn
open Go.RowKit
set_option maxRecDepth 100000 in
set_option maxHeartbeats 400000 in
theorem walk (A : Option Addr) (ca : Nat) (xs : List Int) (w : World) (hr : IntsRaw w A xs) (hm : xs.length ≤ maxLen) (B : Option Addr) (cb : Nat) (ys : List Int) (hs : IntsRaw w B ys) (hl : ys.length ≤ maxLen) :
    Calls Try.prog 9 #[.slice A xs.length ca, .slice B ys.length cb] w fun e w' => e = .returned (.bool true) ∧ Below w.heap.size w w' := by
  unfold maxLen at hm hl
  have HR := Lib.hid hr; clear hr
  have HS := Lib.hid hs; clear hs
  by_cases hbig : (1048576 : Int) < (xs.length : Int)
  · go_enter Try.func9, Try.ntmps9
    go_wp2
    go_ret
    exact ⟨rfl, Below.refl _ _⟩
  · by_cases hbig2 : (1048576 : Int) < (ys.length : Int)
    · go_enter Try.func9, Try.ntmps9
      go_wp2
      go_ret
      exact ⟨rfl, Below.refl _ _⟩
    · go_enter Try.func9, Try.ntmps9
      go_wp2_with fail
      refine (to_ints A ca xs w HR.out (by omega)).mono ?_; rintro e w1 ⟨rfl, ho1, hb1⟩
      have HO1 := Lib.hid ho1; clear ho1
      have HS1 := Lib.hid (HS.out.below hb1)
      go_wp2_with fail
      refine (to_ints B cb ys w1 HS1.out (by omega)).mono ?_; rintro e w2 ⟨rfl, ho2, hb2⟩
      have HO2 := Lib.hid ho2; clear ho2
      have HO12 := Lib.hid (HO1.out.below hb2)
      replace hb2 := hb1.trans (hb2.mono hb1.size)
      go_wp2_with fail
      refine (fit_spec _ _ _ _ xs ys w2 HO12.out.ins.2 HO2.out.ins.2 (by omega) (by omega)).mono ?_; rintro e w3 ⟨rfl, hb3⟩
      replace hb3 := hb2.trans (hb3.mono hb2.size)
      clear hb1 hb2 HS1 HO12
      have HR3 := Lib.hid (HR.out.below hb3)
      go_wp2_with fail
      refine (to_ints A ca xs w3 HR3.out (by omega)).mono ?_; rintro e w4 ⟨rfl, ho4, hb4⟩
      have HO4 := Lib.hid ho4; clear ho4
      replace hb4 := hb3.trans (hb4.mono hb3.size)
      have HS4 := Lib.hid (HS.out.below hb4)
      go_wp2_with fail
      refine (to_ints B cb ys w4 HS4.out (by omega)).mono ?_; rintro e w5 ⟨rfl, ho5, hb5⟩
      have HO5 := Lib.hid ho5; clear ho5
      have HO45 := Lib.hid (HO4.out.below hb5)
      replace hb5 := hb4.trans (hb5.mono hb4.size)
      go_wp2_with fail
      refine (fit_impl _ _ _ _ xs ys w5 HO45.out.ins.2 HO5.out.ins.2 (by omega) (by omega)).mono ?_; rintro e w6 ⟨rfl, hb6⟩
      have HO46 := Lib.hid (HO45.out.below hb6)
      have HO56 := Lib.hid (HO5.out.below hb6)
      replace hb6 := hb5.trans (hb6.mono hb5.size)
      clear hb3 hb4 hb5 HS4 HR3 HO45
      have HR6 := Lib.hid (HR.out.below hb6)
      have hq : (fitB xs ys != fitB xs ys) = false := by simp
      generalize fitB xs ys = V at *
      go_wp2_with fail
      refine (to_ints A ca xs w6 HR6.out (by omega)).mono ?_; rintro e w7 ⟨rfl, ho7, hb7⟩
      have HO7 := Lib.hid ho7; clear ho7
      have HO47 := Lib.hid (HO46.out.below hb7)
      have HO57 := Lib.hid (HO56.out.below hb7)
      replace hb7 := hb6.trans (hb7.mono hb6.size)
      go_wp2_with fail
      refine (eq_ints _ _ _ _ xs w7 HO47.out.ins.2 HO7.out.ins.2 (by omega)).mono ?_; rintro e w8 ⟨rfl, hb8⟩
      have HO58 := Lib.hid (HO57.out.below hb8)
      replace hb8 := hb7.trans (hb8.mono hb7.size)
      have HS8 := Lib.hid (HS.out.below hb8)
      clear hb6 hb7
      go_wp2_with fail
      refine (to_ints B cb ys w8 HS8.out (by omega)).mono ?_; rintro e w9 ⟨rfl, ho9, hb9⟩
      have HO9 := Lib.hid ho9; clear ho9
      have HO59 := Lib.hid (HO58.out.below hb9)
      replace hb9 := hb8.trans (hb9.mono hb8.size)
      go_wp2_with fail
      refine (eq_ints _ _ _ _ ys w9 HO59.out.ins.2 HO9.out.ins.2 (by omega)).mono ?_; rintro e w10 ⟨rfl, hb10⟩
      go_wp2
      go_ret
      exact ⟨rfl, hb9.trans (hb10.mono hb9.size)⟩
end Go.Proofs.Ytakpeakahofjlaa.fnExactFitsIn
