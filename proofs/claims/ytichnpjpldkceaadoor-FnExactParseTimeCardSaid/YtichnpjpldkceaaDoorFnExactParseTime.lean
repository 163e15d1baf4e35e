/- The walk of the law on ParseTime. -/
import Derived.Test.YtichnpjpldkceaaDoorPTime
namespace Go.Proofs.YtichnpjpldkceaaDoor.fnExactParseTime
open Go.RowKit
set_option maxRecDepth 100000 in
set_option maxHeartbeats 1000000 in
theorem walk (s : ByteArray) (hs : s.size ≤ maxLen) (w : World) (hp : PowIs w) (he : ErrIs w "strconv.ErrRange" ∧ ErrIs w "strconv.ErrSyntax") (hm : MaxIs w) :
    Calls Tryd.prog 5 #[.string s] w fun e w' => e = .returned (.bool true) ∧ Below w.heap.size w w' := by
  have hml := hs
  unfold maxLen at hml
  have HP := Lib.hid hp; clear hp
  have HE := Lib.hid he; clear he
  have HM := Lib.hid hm; clear hm
  by_cases hbig : (1048576 : Int) < (s.size : Int)
  · go_enter Tryd.func5, Tryd.ntmps5
    go_wp2
    go_ret
    exact ⟨rfl, Below.refl _ _⟩
  · go_enter Tryd.func5, Tryd.ntmps5
    go_wp2_with fail
    refine (ptime_spec s _ (by omega)).mono ?_; rintro e w1 ⟨h1, hb1⟩
    have hk := Lib.hid h1
    rcases h1 with ⟨t, _, rfl⟩ | ⟨_, rfl⟩
    · have hq : (t != t) = false := by simp
      go_wp2_with fail
      refine (ptime_impl s _ (by omega) (HP.out.below hb1) ⟨HE.out.1.below hb1, HE.out.2.below hb1⟩ (HM.out.below hb1)).mono ?_; rintro e w2 ⟨h2, hb2⟩
      obtain rfl := pTime_eq hk.out h2
      clear h2 hk
      go_wp2
      go_ret
      exact ⟨rfl, hb1.trans (hb2.mono hb1.size)⟩
    · go_wp2_with fail
      refine (ptime_impl s _ (by omega) (HP.out.below hb1) ⟨HE.out.1.below hb1, HE.out.2.below hb1⟩ (HM.out.below hb1)).mono ?_; rintro e w2 ⟨h2, hb2⟩
      obtain rfl := pTime_eq hk.out h2
      clear h2 hk
      go_wp2
      go_ret
      exact ⟨rfl, hb1.trans (hb2.mono hb1.size)⟩
end Go.Proofs.YtichnpjpldkceaaDoor.fnExactParseTime
