/- The walk of the law on FormatInt. -/
import Derived.Test.YtphcjppdmdmejaaDoorFmt
namespace Go.Proofs.YtphcjppdmdmejaaDoor.fnExactFormatInt
open Go.RowKit
set_option maxHeartbeats 400000 in
theorem walk (n : Int) (hn : -9223372036854775808 ≤ n ∧ n ≤ 9223372036854775807) (w : World) (hp : PowIs w) :
    Calls Tryd.prog 7 #[.int .i64 n] w fun e w' => e = .returned (.bool true) ∧ Below w.heap.size w w' := by
  have HN := Lib.hid hn; clear hn
  have HP := Lib.hid hp; clear hp
  go_enter Tryd.func7, Tryd.ntmps7
  go_wp2_with fail
  refine (fmt_spec n _ HN.out).mono ?_; rintro e w1 ⟨rfl, hb1⟩
  go_wp2_with fail
  refine (fmt_impl n HN.out _ (HP.out.below hb1)).mono ?_; rintro e w2 ⟨rfl, hb2⟩
  go_wp2
  go_ret
  exact ⟨rfl, hb1.trans (hb2.mono hb1.size)⟩
end Go.Proofs.YtphcjppdmdmejaaDoor.fnExactFormatInt
