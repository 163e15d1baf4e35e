/- The walk of the law on FormatTime. -/
import Derived.Test.YtichnpjpldkceaaDoorClock
namespace Go.Proofs.YtichnpjpldkceaaDoor.fnExactFormatTime
open Go.RowKit
set_option maxHeartbeats 1000000 in
theorem walk (t : Int) (_ht : -9223372036854775808 ≤ t ∧ t ≤ 9223372036854775807) (w : World) (hp : PowIs w) :
    Calls Tryd.prog 4 #[.int .i64 t] w fun e w' => e = .returned (.bool true) ∧ Below w.heap.size w w' := by
  clear _ht
  have HP := Lib.hid hp; clear hp
  have HS := Lib.hid (fun W => time_spec t W)
  have HI := Lib.hid (fun W h => time_impl t W h)
  generalize fmtT t = m at *
  have hq : (m.toList != m.toList) = false := by simp
  go_enter Tryd.func4, Tryd.ntmps4
  go_wp2_with fail
  refine (HS.out _).mono ?_; rintro e w1 ⟨rfl, hb1⟩
  go_wp2_with fail
  refine (HI.out _ (HP.out.below hb1)).mono ?_; rintro e w2 ⟨rfl, hb2⟩
  go_wp2
  go_ret
  exact ⟨rfl, hb1.trans (hb2.mono hb1.size)⟩
end Go.Proofs.YtichnpjpldkceaaDoor.fnExactFormatTime
