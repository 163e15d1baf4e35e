/- The walk of the law on GirthOf. -/
import Derived.Test.YtakpeakahofjlaaGirth
namespace Go.Proofs.Ytakpeakahofjlaa.fnExactGirthOf
open Go.RowKit
set_option maxRecDepth 100000 in
set_option maxHeartbeats 400000 in
theorem walk (A : Option Addr) (cap : Nat) (zs : List Int) (w : World) (hr : IntsRaw w A zs) (hm : zs.length ≤ maxLen) :
    Calls Try.prog 7 #[.slice A zs.length cap] w fun e w' => e = .returned (.bool true) ∧ Below w.heap.size w w' := by
  unfold maxLen at hm
  have HR := Lib.hid hr; clear hr
  by_cases hbig : (1048576 : Int) < (zs.length : Int)
  · go_enter Try.func7, Try.ntmps7
    go_wp2
    go_ret
    exact ⟨rfl, Below.refl _ _⟩
  · go_enter Try.func7, Try.ntmps7
    go_wp2_with fail
    refine (to_ints A cap zs w HR.out (by omega)).mono ?_; rintro e w1 ⟨rfl, ho1, hb1⟩
    have HO1 := Lib.hid ho1; clear ho1
    go_wp2_with fail
    refine (gir_spec _ _ zs w1 HO1.out.ins.2 (by omega)).mono ?_; rintro e w2 ⟨rfl, hb2⟩
    replace hb2 := hb1.trans (hb2.mono hb1.size)
    have HR2 := Lib.hid (HR.out.below hb2)
    go_wp2_with fail
    refine (to_ints A cap zs w2 HR2.out (by omega)).mono ?_; rintro e w3 ⟨rfl, ho3, hb3⟩
    have HO3 := Lib.hid ho3; clear ho3
    have hb13 := hb2.trans (hb3.mono hb2.size)
    go_wp2_with fail
    refine (gir_impl _ _ zs w3 HO3.out.ins.2 (by omega)).mono ?_; rintro e w4 ⟨rfl, hb4⟩
    have HO4 := Lib.hid (HO3.out.below hb4)
    replace hb4 := hb13.trans (hb4.mono hb13.size)
    have HR4 := Lib.hid (HR.out.below hb4)
    have hq : (girth zs != girth zs) = false := by simp
    generalize girth zs = V at *
    go_wp2_with fail
    refine (to_ints A cap zs w4 HR4.out (by omega)).mono ?_; rintro e w5 ⟨rfl, ho5, hb5⟩
    have HO5 := Lib.hid ho5; clear ho5
    have HO6 := Lib.hid (HO4.out.below hb5)
    have hb15 := hb4.trans (hb5.mono hb4.size)
    go_wp2_with fail
    refine (eq_ints _ _ _ _ zs w5 HO6.out.ins.2 HO5.out.ins.2 (by omega)).mono ?_; rintro e w6 ⟨rfl, hb6⟩
    go_wp2
    go_ret
    exact ⟨rfl, hb15.trans (hb6.mono hb15.size)⟩
end Go.Proofs.Ytakpeakahofjlaa.fnExactGirthOf
