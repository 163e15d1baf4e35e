/- The walk of the law on IsLine. Written by hand. -/
import Derived.Test.YtadcmngooobeiaaLnS
import Derived.Test.YtadcmngooobeiaaLnI
import Derived.Deep.Cut
namespace Go.Proofs.Ytadcmngooobeiaa.fnExactIsLine
open Go.RowKit
set_option maxRecDepth 100000 in
set_option maxHeartbeats 2000000 in
theorem walk (o0 k0 a0 t0 : Int) (w : World) :
    Calls Try.prog 3 #[.agg #[.int .i64 o0, .int .i64 k0, .int .i64 a0, .int .i64 t0]] w fun e w' => e = .returned (.bool true) ∧ Below w.heap.size w w' := by
  have hbA := (Below.refl w.heap.size w).alloc (Nat.le_refl _) (.cells #[.int .i64 o0, .int .i64 k0, .int .i64 a0, .int .i64 t0] 23)
  have HX := Lib.hid (Bx.new (T := 23) w [.int .i64 o0, .int .i64 k0, .int .i64 a0, .int .i64 t0])
  have HB := Lib.hid hbA; have HSZ := Lib.hid hbA.size; clear hbA
  have HS := Lib.hid (fun W => isl_spec o0 k0 a0 t0 W)
  have HI := Lib.hid (fun W => isl_impl o0 k0 a0 t0 W)
  generalize lineB ⟨o0, k0, a0, t0⟩ = V at *
  have hq : (V != V) = false := by simp
  generalize hB : w.heap.size = B at *

  go_enter Try.func3, Try.ntmps3
  go_upto_region 1 with (fail)
  clear hB
  change Hid (Bx 23 (w.alloc (.cells #[.int .i64 o0, .int .i64 k0, .int .i64 a0, .int .i64 t0] 23)) B [.int .i64 o0, .int .i64 k0, .int .i64 a0, .int .i64 t0]) at HX
  generalize w.alloc (.cells #[.int .i64 o0, .int .i64 k0, .int .i64 a0, .int .i64 t0] 23) = W0 at *
  have x0_ := HX.out.cell 0 _ rfl; have x1_ := HX.out.cell 1 _ rfl; have x2_ := HX.out.cell 2 _ rfl; have x3_ := HX.out.cell 3 _ rfl
  go_wp2_with fail
  clear x0_ x1_ x2_ x3_
  refine (to_ln o0 k0 a0 t0 W0).mono ?_; rintro e w1 ⟨rfl, hb⟩
  replace HX := Lib.hid (HX.out.below hb); replace HB := Lib.hid (HB.out.trans (hb.mono HSZ.out)); replace HSZ := Lib.hid (Nat.le_trans HSZ.out hb.size); clear hb
  go_wp2_with fail
  refine (HS.out w1).mono ?_; rintro e w2 ⟨rfl, hb⟩
  replace HX := Lib.hid (HX.out.below hb); replace HB := Lib.hid (HB.out.trans (hb.mono HSZ.out)); replace HSZ := Lib.hid (Nat.le_trans HSZ.out hb.size); clear hb
  have x0_ := HX.out.cell 0 _ rfl; have x1_ := HX.out.cell 1 _ rfl; have x2_ := HX.out.cell 2 _ rfl; have x3_ := HX.out.cell 3 _ rfl
  go_wp2_with fail
  clear x0_ x1_ x2_ x3_
  refine (to_ln o0 k0 a0 t0 w2).mono ?_; rintro e w3 ⟨rfl, hb⟩
  replace HB := Lib.hid (HB.out.trans (hb.mono HSZ.out)); replace HSZ := Lib.hid (Nat.le_trans HSZ.out hb.size); clear hb
  go_wp2_with fail
  refine (HI.out w3).mono ?_; rintro e w4 ⟨rfl, hb⟩
  replace HB := Lib.hid (HB.out.trans (hb.mono HSZ.out)); replace HSZ := Lib.hid (Nat.le_trans HSZ.out hb.size); clear hb
  go_wp2
  go_ret
  exact ⟨rfl, HB.out⟩
end Go.Proofs.Ytadcmngooobeiaa.fnExactIsLine
