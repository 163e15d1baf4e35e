/- mayFollow. Written by hand. -/
import Derived.Test.YtadcmngooobeiaaLnI
namespace Go.Proofs.Ytadcmngooobeiaa
open Go.RowKit
set_option maxRecDepth 100000 in
set_option maxHeartbeats 2000000 in
theorem may_impl (xo xk xa xt : Int) (A : Option Addr) (ca : Nat) (b : List Ln) (w : World) (hA : InK 4 lnC w A b) (hn : b.length ≤ 200) (hv : ∀ x ∈ b, lineB x = true) (ha : 1 ≤ xa ∧ xa ≤ 100000) :
    Calls Try.prog 63 #[.slice A b.length ca, .agg #[.int .i64 xo, .int .i64 xk, .int .i64 xa, .int .i64 xt]] w fun e w' => e = .returned (.bool (mayB b ⟨xo, xk, xa, xt⟩)) ∧ Below w.heap.size w w' := by
  have HV := Lib.hid (show mayB b ⟨xo, xk, xa, xt⟩ = (if xk = 1 then decide (sumT b xo 1 = 0) else if xk = 2 then decide (sumT b xo 2 + xa ≤ sumT b xo 1) else decide (sumT b xo 3 = 0) && decide (sumT b xo 2 = sumT b xo 1) && decide (xa ≤ sumT b xo 1)) from rfl)
  generalize mayB b ⟨xo, xk, xa, xt⟩ = V at *
  have HS1 := Lib.hid (sum_nonneg (o := xo) (k := 1) hn hv); have HS2 := Lib.hid (sum_nonneg (o := xo) (k := 2) hn hv)
  have H1 := Lib.hid (fun W (h : InK 4 lnC W A b) => sum_impl xo 1 A ca b W h (by omega))
  have H2 := Lib.hid (fun W (h : InK 4 lnC W A b) => sum_impl xo 2 A ca b W h (by omega))
  have H3 := Lib.hid (fun W (h : InK 4 lnC W A b) => sum_impl xo 3 A ca b W h (by omega))
  generalize sumT b xo 1 = S1 at *
  generalize sumT b xo 2 = S2 at *
  generalize sumT b xo 3 = S3 at *
  clear hv
  have hbA := (Below.refl w.heap.size w).alloc (Nat.le_refl _) (.cells #[.int .i64 xo, .int .i64 xk, .int .i64 xa, .int .i64 xt] 25)
  have HX := Lib.hid (Bx.new (T := 25) w [.int .i64 xo, .int .i64 xk, .int .i64 xa, .int .i64 xt])
  have HA := Lib.hid (hA.below hbA)
  have HB := Lib.hid hbA; have HSZ := Lib.hid hbA.size
  clear hA hbA
  generalize hB : w.heap.size = B at *
  have HBE := Lib.hid hB
  by_cases k1 : xk = 1
  · replace HV := Lib.hid (HV.out.trans (if_pos k1))
    by_cases h : S1 = 0
    · have HVF := Lib.hid (HV.out.trans (decide_eq_true h))
      have e1 : (S1 == 0) = true := by simp [h]
      clear h
      subst k1
      go_enter Try.func63, Try.ntmps63
      go_wp2_with fail
      clear hB
      change Hid (Bx 25 (w.alloc (.cells #[.int .i64 xo, .int .i64 1, .int .i64 xa, .int .i64 xt] 25)) B [.int .i64 xo, .int .i64 1, .int .i64 xa, .int .i64 xt]) at HX
      generalize w.alloc (.cells #[.int .i64 xo, .int .i64 1, .int .i64 xa, .int .i64 xt] 25) = W0 at *
      have x0_ := HX.out.cell 0 _ rfl; have x1_ := HX.out.cell 1 _ rfl; have x2_ := HX.out.cell 2 _ rfl
      refine (H1.out W0 HA.out).mono ?_; rintro e W1 ⟨rfl, hb⟩
      clear x0_ x1_ x2_
      replace HX := Lib.hid (HX.out.below hb); replace HA := Lib.hid (HA.out.below hb); replace HB := Lib.hid (HB.out.trans (hb.mono HSZ.out)); replace HSZ := Lib.hid (Nat.le_trans HSZ.out hb.size); clear hb
      have x0_ := HX.out.cell 0 _ rfl; have x1_ := HX.out.cell 1 _ rfl; have x2_ := HX.out.cell 2 _ rfl
      go_wp2_with fail
      refine (H2.out W1 HA.out).mono ?_; rintro e W2 ⟨rfl, hb⟩
      clear x0_ x1_ x2_
      replace HX := Lib.hid (HX.out.below hb); replace HA := Lib.hid (HA.out.below hb); replace HB := Lib.hid (HB.out.trans (hb.mono HSZ.out)); replace HSZ := Lib.hid (Nat.le_trans HSZ.out hb.size); clear hb
      have x0_ := HX.out.cell 0 _ rfl; have x1_ := HX.out.cell 1 _ rfl; have x2_ := HX.out.cell 2 _ rfl
      go_wp2
      go_ret
      exact ⟨ret_bool HVF.out.symm, by first | exact HB.out | (rw [HBE.out]; exact HB.out)⟩
    · have HVF := Lib.hid (HV.out.trans (decide_eq_false h))
      have e1 : (S1 == 0) = false := by simp [h]
      clear h
      subst k1
      go_enter Try.func63, Try.ntmps63
      go_wp2_with fail
      clear hB
      change Hid (Bx 25 (w.alloc (.cells #[.int .i64 xo, .int .i64 1, .int .i64 xa, .int .i64 xt] 25)) B [.int .i64 xo, .int .i64 1, .int .i64 xa, .int .i64 xt]) at HX
      generalize w.alloc (.cells #[.int .i64 xo, .int .i64 1, .int .i64 xa, .int .i64 xt] 25) = W0 at *
      have x0_ := HX.out.cell 0 _ rfl; have x1_ := HX.out.cell 1 _ rfl; have x2_ := HX.out.cell 2 _ rfl
      refine (H1.out W0 HA.out).mono ?_; rintro e W1 ⟨rfl, hb⟩
      clear x0_ x1_ x2_
      replace HX := Lib.hid (HX.out.below hb); replace HA := Lib.hid (HA.out.below hb); replace HB := Lib.hid (HB.out.trans (hb.mono HSZ.out)); replace HSZ := Lib.hid (Nat.le_trans HSZ.out hb.size); clear hb
      have x0_ := HX.out.cell 0 _ rfl; have x1_ := HX.out.cell 1 _ rfl; have x2_ := HX.out.cell 2 _ rfl
      go_wp2_with fail
      refine (H2.out W1 HA.out).mono ?_; rintro e W2 ⟨rfl, hb⟩
      clear x0_ x1_ x2_
      replace HX := Lib.hid (HX.out.below hb); replace HA := Lib.hid (HA.out.below hb); replace HB := Lib.hid (HB.out.trans (hb.mono HSZ.out)); replace HSZ := Lib.hid (Nat.le_trans HSZ.out hb.size); clear hb
      have x0_ := HX.out.cell 0 _ rfl; have x1_ := HX.out.cell 1 _ rfl; have x2_ := HX.out.cell 2 _ rfl
      go_wp2
      go_ret
      exact ⟨ret_bool HVF.out.symm, by first | exact HB.out | (rw [HBE.out]; exact HB.out)⟩
  replace HV := Lib.hid (HV.out.trans (if_neg k1))
  have ek1 : (xk == 1) = false := by simp [k1]
  clear k1
  by_cases k2 : xk = 2
  · replace HV := Lib.hid (HV.out.trans (if_pos k2))
    have HW := Lib.hid (wrap_id (x := S2 + xa) (by have := HS2.out; omega))
    by_cases h : S2 + xa ≤ S1
    · have HVF := Lib.hid (HV.out.trans (decide_eq_true h))
      have e2 : decide (wrap64 (S2 + xa) ≤ S1) = true := by rw [HW.out]; exact decide_eq_true h
      clear h ek1
      subst k2
      go_enter Try.func63, Try.ntmps63
      go_wp2_with fail
      clear hB
      change Hid (Bx 25 (w.alloc (.cells #[.int .i64 xo, .int .i64 2, .int .i64 xa, .int .i64 xt] 25)) B [.int .i64 xo, .int .i64 2, .int .i64 xa, .int .i64 xt]) at HX
      generalize w.alloc (.cells #[.int .i64 xo, .int .i64 2, .int .i64 xa, .int .i64 xt] 25) = W0 at *
      have x0_ := HX.out.cell 0 _ rfl; have x1_ := HX.out.cell 1 _ rfl; have x2_ := HX.out.cell 2 _ rfl
      refine (H1.out W0 HA.out).mono ?_; rintro e W1 ⟨rfl, hb⟩
      clear x0_ x1_ x2_
      replace HX := Lib.hid (HX.out.below hb); replace HA := Lib.hid (HA.out.below hb); replace HB := Lib.hid (HB.out.trans (hb.mono HSZ.out)); replace HSZ := Lib.hid (Nat.le_trans HSZ.out hb.size); clear hb
      have x0_ := HX.out.cell 0 _ rfl; have x1_ := HX.out.cell 1 _ rfl; have x2_ := HX.out.cell 2 _ rfl
      go_wp2_with fail
      refine (H2.out W1 HA.out).mono ?_; rintro e W2 ⟨rfl, hb⟩
      clear x0_ x1_ x2_
      replace HX := Lib.hid (HX.out.below hb); replace HA := Lib.hid (HA.out.below hb); replace HB := Lib.hid (HB.out.trans (hb.mono HSZ.out)); replace HSZ := Lib.hid (Nat.le_trans HSZ.out hb.size); clear hb
      have x0_ := HX.out.cell 0 _ rfl; have x1_ := HX.out.cell 1 _ rfl; have x2_ := HX.out.cell 2 _ rfl
      go_wp2
      go_ret
      exact ⟨ret_bool HVF.out.symm, by first | exact HB.out | (rw [HBE.out]; exact HB.out)⟩
    · have HVF := Lib.hid (HV.out.trans (decide_eq_false h))
      have e2 : decide (wrap64 (S2 + xa) ≤ S1) = false := by rw [HW.out]; exact decide_eq_false h
      clear h ek1
      subst k2
      go_enter Try.func63, Try.ntmps63
      go_wp2_with fail
      clear hB
      change Hid (Bx 25 (w.alloc (.cells #[.int .i64 xo, .int .i64 2, .int .i64 xa, .int .i64 xt] 25)) B [.int .i64 xo, .int .i64 2, .int .i64 xa, .int .i64 xt]) at HX
      generalize w.alloc (.cells #[.int .i64 xo, .int .i64 2, .int .i64 xa, .int .i64 xt] 25) = W0 at *
      have x0_ := HX.out.cell 0 _ rfl; have x1_ := HX.out.cell 1 _ rfl; have x2_ := HX.out.cell 2 _ rfl
      refine (H1.out W0 HA.out).mono ?_; rintro e W1 ⟨rfl, hb⟩
      clear x0_ x1_ x2_
      replace HX := Lib.hid (HX.out.below hb); replace HA := Lib.hid (HA.out.below hb); replace HB := Lib.hid (HB.out.trans (hb.mono HSZ.out)); replace HSZ := Lib.hid (Nat.le_trans HSZ.out hb.size); clear hb
      have x0_ := HX.out.cell 0 _ rfl; have x1_ := HX.out.cell 1 _ rfl; have x2_ := HX.out.cell 2 _ rfl
      go_wp2_with fail
      refine (H2.out W1 HA.out).mono ?_; rintro e W2 ⟨rfl, hb⟩
      clear x0_ x1_ x2_
      replace HX := Lib.hid (HX.out.below hb); replace HA := Lib.hid (HA.out.below hb); replace HB := Lib.hid (HB.out.trans (hb.mono HSZ.out)); replace HSZ := Lib.hid (Nat.le_trans HSZ.out hb.size); clear hb
      have x0_ := HX.out.cell 0 _ rfl; have x1_ := HX.out.cell 1 _ rfl; have x2_ := HX.out.cell 2 _ rfl
      go_wp2
      go_ret
      exact ⟨ret_bool HVF.out.symm, by first | exact HB.out | (rw [HBE.out]; exact HB.out)⟩
  replace HV := Lib.hid (HV.out.trans (if_neg k2))
  have ek2 : (xk == 2) = false := by simp [k2]
  clear k2
  go_enter Try.func63, Try.ntmps63
  go_wp2_with fail
  clear hB
  change Hid (Bx 25 (w.alloc (.cells #[.int .i64 xo, .int .i64 xk, .int .i64 xa, .int .i64 xt] 25)) B [.int .i64 xo, .int .i64 xk, .int .i64 xa, .int .i64 xt]) at HX
  generalize w.alloc (.cells #[.int .i64 xo, .int .i64 xk, .int .i64 xa, .int .i64 xt] 25) = W0 at *
  have x0_ := HX.out.cell 0 _ rfl; have x1_ := HX.out.cell 1 _ rfl; have x2_ := HX.out.cell 2 _ rfl
  refine (H1.out W0 HA.out).mono ?_; rintro e W1 ⟨rfl, hb⟩
  clear x0_ x1_ x2_
  replace HX := Lib.hid (HX.out.below hb); replace HA := Lib.hid (HA.out.below hb); replace HB := Lib.hid (HB.out.trans (hb.mono HSZ.out)); replace HSZ := Lib.hid (Nat.le_trans HSZ.out hb.size); clear hb
  have x0_ := HX.out.cell 0 _ rfl; have x1_ := HX.out.cell 1 _ rfl; have x2_ := HX.out.cell 2 _ rfl
  go_wp2_with fail
  refine (H2.out W1 HA.out).mono ?_; rintro e W2 ⟨rfl, hb⟩
  clear x0_ x1_ x2_
  replace HX := Lib.hid (HX.out.below hb); replace HA := Lib.hid (HA.out.below hb); replace HB := Lib.hid (HB.out.trans (hb.mono HSZ.out)); replace HSZ := Lib.hid (Nat.le_trans HSZ.out hb.size); clear hb
  have x0_ := HX.out.cell 0 _ rfl; have x1_ := HX.out.cell 1 _ rfl; have x2_ := HX.out.cell 2 _ rfl
  go_wp2_with fail
  refine (H3.out W2 HA.out).mono ?_; rintro e W3 ⟨rfl, hb⟩
  clear x0_ x1_ x2_
  replace HX := Lib.hid (HX.out.below hb); replace HA := Lib.hid (HA.out.below hb); replace HB := Lib.hid (HB.out.trans (hb.mono HSZ.out)); replace HSZ := Lib.hid (Nat.le_trans HSZ.out hb.size); clear hb
  have x0_ := HX.out.cell 0 _ rfl; have x1_ := HX.out.cell 1 _ rfl; have x2_ := HX.out.cell 2 _ rfl
  by_cases h1 : S3 = 0
  rotate_left
  · have HVF := Lib.hid (HV.out.trans (show _ = false by rw [decide_eq_false h1]; simp only [Bool.false_and]))
    have e1 : (S3 == 0) = false := by simp [h1]
    clear h1
    go_wp2
    go_ret
    exact ⟨ret_bool HVF.out.symm, by first | exact HB.out | (rw [HBE.out]; exact HB.out)⟩
  have e1 : (S3 == 0) = true := by simp [h1]
  by_cases h2 : S2 = S1
  rotate_left
  · have HVF := Lib.hid (HV.out.trans (show _ = false by rw [decide_eq_false h2]; simp only [Bool.false_and, Bool.and_false]))
    have e2 : (S2 == S1) = false := by simp [h2]
    clear h1 h2
    go_wp2
    go_ret
    exact ⟨ret_bool HVF.out.symm, by first | exact HB.out | (rw [HBE.out]; exact HB.out)⟩
  have e2 : (S2 == S1) = true := by simp [h2]
  have HVF := Lib.hid (HV.out.trans (show _ = decide (xa ≤ S1) by rw [decide_eq_true h1, decide_eq_true h2]; rfl))
  clear h1 h2
  go_wp2
  go_ret
  exact ⟨ret_bool HVF.out.symm, by first | exact HB.out | (rw [HBE.out]; exact HB.out)⟩
end Go.Proofs.Ytadcmngooobeiaa
