/- The walk of the law on ParseInt. -/
import Derived.Test.YtphcjppdmdmejaaDoorPInt
namespace Go.Proofs.YtphcjppdmdmejaaDoor.fnExactParseInt
open Go.RowKit
set_option maxRecDepth 100000 in
set_option maxHeartbeats 400000 in
theorem walk (s : ByteArray) (hs : s.size ≤ maxLen) (w : World) (hp : PowIs w) (he : ErrIs w "strconv.ErrRange" ∧ ErrIs w "strconv.ErrSyntax") :
    Calls Tryd.prog 8 #[.string s] w fun e w' => e = .returned (.bool true) ∧ Below w.heap.size w w' := by
  have hm := hs
  unfold maxLen at hm
  have HP := Lib.hid hp; clear hp
  have HE := Lib.hid he; clear he
  by_cases hbig : (1048576 : Int) < (s.size : Int)
  · go_enter Tryd.func8, Tryd.ntmps8
    go_wp2
    go_ret
    exact ⟨rfl, Below.refl _ _⟩
  · go_enter Tryd.func8, Tryd.ntmps8
    go_wp2_with fail
    refine (pint_spec _ _ (by omega)).mono ?_; rintro e w1 ⟨h1, hb1⟩
    rcases h1 with ⟨n, hn, rfl⟩ | ⟨hn, rfl⟩
    all_goals
      have HN := Lib.hid hn; clear hn
      go_wp2_with fail
      refine (pint_impl _ _ (by omega) (HP.out.below hb1) ⟨HE.out.1.below hb1, HE.out.2.below hb1⟩).mono ?_; rintro e w2 ⟨h2, hb2⟩
      rcases h2 with ⟨m, hm, rfl⟩ | ⟨hm, rfl⟩
    · have e : m = n := dec_inj (hm.2.trans HN.out.2.symm)
      subst e
      clear hm
      have hq : ((m : Int) != (m : Int)) = false := by simp
      go_wp2
      go_ret
      exact ⟨rfl, hb1.trans (hb2.mono hb1.size)⟩
    · exact absurd HN.out (hm n)
    · exact absurd hm (HN.out m)
    · clear hm
      go_wp2
      go_ret
      exact ⟨rfl, hb1.trans (hb2.mono hb1.size)⟩
end Go.Proofs.YtphcjppdmdmejaaDoor.fnExactParseInt
