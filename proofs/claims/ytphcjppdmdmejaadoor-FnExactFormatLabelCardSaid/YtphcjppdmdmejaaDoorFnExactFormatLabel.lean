/- The walk of the law on FormatLabel. -/
import Derived.Test.YtphcjppdmdmejaaDoorFLab2
namespace Go.Proofs.YtphcjppdmdmejaaDoor.fnExactFormatLabel
open Go.RowKit
set_option maxRecDepth 100000 in
set_option maxHeartbeats 400000 in
theorem walk (a b : Int) (s : ByteArray) (_ha : -9223372036854775808 ≤ a ∧ a ≤ 9223372036854775807) (_hb : -9223372036854775808 ≤ b ∧ b ≤ 9223372036854775807) (hs : s.size ≤ maxLen) (w : World) (hp : PowIs w) :
    Calls Tryd.prog 10 #[.agg #[.int .i64 a, .int .i64 b, .string s]] w fun e w' => e = .returned (.bool true) ∧ Below w.heap.size w w' := by
  clear _ha _hb
  have HP := Lib.hid hp; clear hp
  have hbW := ((Below.refl w.heap.size w).alloc (Nat.le_refl _) (.cells #[.int .i64 a, .int .i64 b, .string s] 42))
  have hB := BoxIs.new w a b s 42
  by_cases hbig : (1048576 : Int) < (s.size : Int)
  · go_enter Tryd.func10, Tryd.ntmps10
    go_wp2_with fail
    generalize w.alloc (.cells #[.int .i64 a, .int .i64 b, .string s] 42) = W at *
    refine (sz_big _ _ _ _ _ hs (by omega) (by omega)).mono ?_; rintro e w1 ⟨rfl, hb1⟩
    go_wp2
    go_ret
    exact ⟨rfl, hbW.trans (hb1.mono (by have := hB.2.2.2; omega))⟩
  · have hn : ¬ ((1048576 : Int) - (s.size : Int) < 0) := by omega
    go_enter Tryd.func10, Tryd.ntmps10
    go_wp2_with fail
    generalize w.alloc (.cells #[.int .i64 a, .int .i64 b, .string s] 42) = W at *
    refine (sz_ok _ _ _ _ _ hs (by omega) (by omega)).mono ?_; rintro e w1 ⟨rfl, hb1⟩
    have hB1 := hB.below hb1
    have hzW : w.heap.size < W.heap.size := hB.2.2.2
    clear hB
    obtain ⟨c0, c1, c2, hz1⟩ := id hB1
    go_wp2_with fail
    refine (to_label _ _ _ _).mono ?_; rintro e w2 ⟨rfl, hb2⟩
    have hB2 := hB1.below hb2
    clear hB1 c0 c1 c2
    go_wp2_with fail
    refine (flab_spec _ _ _ _ (by omega)).mono ?_; rintro e w3 ⟨rfl, hb3⟩
    have hB3 := hB2.below hb3
    clear hB2
    obtain ⟨c0, c1, c2, hz3⟩ := id hB3
    go_wp2_with fail
    refine (to_label _ _ _ _).mono ?_; rintro e w4 ⟨rfl, hb4⟩
    have z1 := hb1.size; have z2 := hb2.size; have z3 := hb3.size; have z4 := hb4.size
    have hbw4 : Below w.heap.size w w4 := hbW.trans ((hb1.mono (by omega)).trans ((hb2.mono (by omega)).trans ((hb3.mono (by omega)).trans (hb4.mono (by omega)))))
    clear z1 z2 z3 z4
    go_wp2_with fail
    refine (flab_impl _ _ _ _ (by omega) (HP.out.below hbw4)).mono ?_; rintro e w5 ⟨rfl, hb5⟩
    generalize flab a b s = m at *
    have hq : (m.toList != m.toList) = false := by simp
    go_wp2
    go_ret
    exact ⟨rfl, hbw4.trans (hb5.mono hbw4.size)⟩
end Go.Proofs.YtphcjppdmdmejaaDoor.fnExactFormatLabel
