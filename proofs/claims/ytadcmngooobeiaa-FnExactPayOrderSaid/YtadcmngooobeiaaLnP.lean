/- ChargeOrder, PayOrder, both texts. Written by mk/lnq.py. -/
import Derived.Test.YtadcmngooobeiaaLnP0
namespace Go.Proofs.Ytadcmngooobeiaa
open Go.RowKit
theorem charge_len {l : List Ln} {o a t : Int} (h : l.length ≤ 1048576) : (chargeR l o a t).1.length ≤ 1048576 := by
  unfold chargeR; split
  · split
    · exact h
    · exact push_len _ _ h
  · exact h
theorem pay_len {l : List Ln} {o a t : Int} (h : l.length ≤ 1048576) : (payR l o a t).1.length ≤ 1048576 := by
  unfold payR; split
  · split
    · exact h
    · split
      · exact h
      · exact push_len _ _ h
  · exact h
set_option maxRecDepth 100000 in
set_option maxHeartbeats 2000000 in
theorem charge_impl (o a t : Int) (g ca : Nat) (l : List Ln) (w : World) (hA : InK 4 lnC w (some ⟨g, 0, none⟩) l) (hc : l.length ≤ ca) (hn : l.length ≤ 1048576) :
    Calls Try.prog 29 #[.slice (some ⟨g, 0, none⟩) l.length ca, .int .i64 o, .int .i64 a, .int .i64 t] w fun e w' => ∃ v, e = .returned (.tuple #[v, .int .i64 (chargeR l o a t).2]) ∧ OwnKln w' w.heap.size v (chargeR l o a t).1 ∧ Below w.heap.size w w' := by
  have HD := Lib.hid (show chargeR l o a t = (if (linesB l && lineB (⟨o, 1, a, t⟩ : Ln)) = true then (if 0 < sumT l o 1 then (l, 2) else pushR l (⟨o, 1, a, t⟩ : Ln)) else (l, 1)) from rfl)
  have HPU := Lib.hid (fun W (h : InK 4 lnC W (some ⟨g, 0, none⟩) l) => push_impl o 1 a t g ca l W h hn)
  have HLN := Lib.hid (fun W (h : InK 4 lnC W (some ⟨g, 0, none⟩) l) => lines_impl (some ⟨g, 0, none⟩) ca l W h hc hn)
  have HIL := Lib.hid (fun W => isl_impl o 1 a t W)
  have HSM := Lib.hid (fun W (h : InK 4 lnC W (some ⟨g, 0, none⟩) l) => sum_impl o 1 (some ⟨g, 0, none⟩) ca l W h hn)
  have HVL := Lib.hid (fun (hv : linesB l = true) => sum_nonneg (o := o) (k := 1) (linesB_valid hv).1 (linesB_valid hv).2)
  generalize chargeR l o a t = R at *
  generalize pushR l (⟨o, 1, a, t⟩ : Ln) = P at *
  generalize sumT l o 1 = S1 at *
  generalize lineB (⟨o, 1, a, t⟩ : Ln) = LB at *
  generalize linesB l = VL at *
  have hbA := (Below.refl w.heap.size w).alloc (Nat.le_refl _) (.cells #[.int .i64 o, .int .i64 1, .int .i64 a, .int .i64 t] 25)
  have HX := Lib.hid (Bx.new (T := 25) w [.int .i64 o, .int .i64 1, .int .i64 a, .int .i64 t])
  have HA := Lib.hid (hA.below hbA)
  have HB := Lib.hid hbA; have HSZ := Lib.hid hbA.size
  clear hA hbA
  generalize hB : w.heap.size = B at *
  have HBE := Lib.hid hB
  go_enter Try.func29, Try.ntmps29
  go_upto_region 2 with (fail)
  clear hB
  change Hid (Bx 25 (w.alloc (.cells #[.int .i64 o, .int .i64 1, .int .i64 a, .int .i64 t] 25)) B [.int .i64 o, .int .i64 1, .int .i64 a, .int .i64 t]) at HX
  generalize w.alloc (.cells #[.int .i64 o, .int .i64 1, .int .i64 a, .int .i64 t] 25) = W0 at *
  have x0_ := HX.out.cell 0 _ rfl; have x1_ := HX.out.cell 1 _ rfl; have x2_ := HX.out.cell 2 _ rfl; have x3_ := HX.out.cell 3 _ rfl
  go_wp2_with fail
  clear x0_ x1_ x2_ x3_
  refine (HLN.out W0 HA.out).mono ?_; rintro e_ w1 ⟨rfl, hb⟩
  replace HA := Lib.hid (HA.out.below hb); replace HB := Lib.hid (HB.out.trans (hb.mono HSZ.out)); replace HSZ := Lib.hid (Nat.le_trans HSZ.out hb.size); replace HX := Lib.hid (HX.out.below hb); clear hb
  cases q0 : VL with
  | false =>
    have HV := Lib.hid (HD.out.trans (show _ = (l, 1) by first | (rw [q0]; done) | (rw [q0]; rfl)))
    have x0_ := HX.out.cell 0 _ rfl; have x1_ := HX.out.cell 1 _ rfl; have x2_ := HX.out.cell 2 _ rfl; have x3_ := HX.out.cell 3 _ rfl
    go_wp2_with fail
    clear x0_ x1_ x2_ x3_
    refine (clone_ln g ca l w1 HA.out hn).mono ?_; rintro e_ wR ⟨G, c, rfl, hr, hb⟩
    have HRR := Lib.hid (OwnK.mono hr HSZ.out : OwnKln wR B (.slice (some ⟨G, 0, none⟩) l.length c) l)
    replace HB := Lib.hid (HB.out.trans (hb.mono HSZ.out)); clear hb hr
    go_wp2
    exact bodyPost_ret (v := .tuple #[.slice (some ⟨G, 0, none⟩) l.length c, .int .i64 1]) (by simp [results, Try.results29, go_sem]) rfl ⟨_, by rw [HV.out], by rw [HV.out]; first | exact HRR.out | (rw [HBE.out]; exact HRR.out), by first | exact HB.out | (rw [HBE.out]; exact HB.out)⟩
  | true =>
  have x0_ := HX.out.cell 0 _ rfl; have x1_ := HX.out.cell 1 _ rfl; have x2_ := HX.out.cell 2 _ rfl; have x3_ := HX.out.cell 3 _ rfl
  go_wp2_with fail
  clear x0_ x1_ x2_ x3_
  refine (HIL.out w1).mono ?_; rintro e_ w2 ⟨rfl, hb⟩
  replace HA := Lib.hid (HA.out.below hb); replace HB := Lib.hid (HB.out.trans (hb.mono HSZ.out)); replace HSZ := Lib.hid (Nat.le_trans HSZ.out hb.size); replace HX := Lib.hid (HX.out.below hb); clear hb
  cases q1 : LB with
  | false =>
    have HV := Lib.hid (HD.out.trans (show _ = (l, 1) by first | (rw [q0, q1]; done) | (rw [q0, q1]; rfl)))
    have x0_ := HX.out.cell 0 _ rfl; have x1_ := HX.out.cell 1 _ rfl; have x2_ := HX.out.cell 2 _ rfl; have x3_ := HX.out.cell 3 _ rfl
    go_wp2_with fail
    clear x0_ x1_ x2_ x3_
    refine (clone_ln g ca l w2 HA.out hn).mono ?_; rintro e_ wR ⟨G, c, rfl, hr, hb⟩
    have HRR := Lib.hid (OwnK.mono hr HSZ.out : OwnKln wR B (.slice (some ⟨G, 0, none⟩) l.length c) l)
    replace HB := Lib.hid (HB.out.trans (hb.mono HSZ.out)); clear hb hr
    go_wp2
    exact bodyPost_ret (v := .tuple #[.slice (some ⟨G, 0, none⟩) l.length c, .int .i64 1]) (by simp [results, Try.results29, go_sem]) rfl ⟨_, by rw [HV.out], by rw [HV.out]; first | exact HRR.out | (rw [HBE.out]; exact HRR.out), by first | exact HB.out | (rw [HBE.out]; exact HB.out)⟩
  | true =>
  replace HD := Lib.hid (HD.out.trans (show _ = (if 0 < S1 then (l, 2) else P) by rw [q0, q1]; rfl))
  have HS0 := Lib.hid (HVL.out q0)
  clear HVL HLN HIL q0 q1
  have x0_ := HX.out.cell 0 _ rfl; have x1_ := HX.out.cell 1 _ rfl; have x2_ := HX.out.cell 2 _ rfl; have x3_ := HX.out.cell 3 _ rfl
  go_wp2_with fail
  clear x0_ x1_ x2_ x3_
  refine (HSM.out w2 HA.out).mono ?_; rintro e_ w3 ⟨rfl, hb⟩
  replace HA := Lib.hid (HA.out.below hb); replace HB := Lib.hid (HB.out.trans (hb.mono HSZ.out)); replace HSZ := Lib.hid (Nat.le_trans HSZ.out hb.size); replace HX := Lib.hid (HX.out.below hb); clear hb
  by_cases h1 : 0 < S1
  · skip
    have e1 : decide (0 < S1) = true := decide_eq_true h1
    have HV := Lib.hid (HD.out.trans (if_pos h1))
    have x0_ := HX.out.cell 0 _ rfl; have x1_ := HX.out.cell 1 _ rfl; have x2_ := HX.out.cell 2 _ rfl; have x3_ := HX.out.cell 3 _ rfl
    go_wp2_with fail
    clear x0_ x1_ x2_ x3_
    refine (clone_ln g ca l w3 HA.out hn).mono ?_; rintro e_ wR ⟨G, c, rfl, hr, hb⟩
    have HRR := Lib.hid (OwnK.mono hr HSZ.out : OwnKln wR B (.slice (some ⟨G, 0, none⟩) l.length c) l)
    replace HB := Lib.hid (HB.out.trans (hb.mono HSZ.out)); clear hb hr
    go_wp2
    exact bodyPost_ret (v := .tuple #[.slice (some ⟨G, 0, none⟩) l.length c, .int .i64 2]) (by simp [results, Try.results29, go_sem]) rfl ⟨_, by rw [HV.out], by rw [HV.out]; first | exact HRR.out | (rw [HBE.out]; exact HRR.out), by first | exact HB.out | (rw [HBE.out]; exact HB.out)⟩
  replace HD := Lib.hid (HD.out.trans (if_neg h1))
  have e1 : decide (0 < S1) = false := decide_eq_false h1
  clear h1
  have x0_ := HX.out.cell 0 _ rfl; have x1_ := HX.out.cell 1 _ rfl; have x2_ := HX.out.cell 2 _ rfl; have x3_ := HX.out.cell 3 _ rfl
  go_wp2_with fail
  clear x0_ x1_ x2_ x3_
  refine (HPU.out w3 HA.out).mono ?_; rintro e_ wR ⟨v, rfl, hr, hb⟩
  have HRR := Lib.hid (OwnK.mono hr HSZ.out : OwnKln wR B v P.1)
  replace HB := Lib.hid (HB.out.trans (hb.mono HSZ.out)); clear hb hr
  go_wp2
  exact bodyPost_ret (v := .tuple #[v, .int .i64 P.2]) (by simp [results, Try.results29, go_sem]) rfl ⟨_, by rw [HD.out], by rw [HD.out]; first | exact HRR.out | (rw [HBE.out]; exact HRR.out), by first | exact HB.out | (rw [HBE.out]; exact HB.out)⟩
set_option maxRecDepth 100000 in
set_option maxHeartbeats 2000000 in
theorem charge_spec (o a t : Int) (g ca : Nat) (l : List Ln) (w : World) (hA : InK 4 lnC w (some ⟨g, 0, none⟩) l) (hc : l.length ≤ ca) (hn : l.length ≤ 1048576) :
    Calls Try.prog 28 #[.slice (some ⟨g, 0, none⟩) l.length ca, .int .i64 o, .int .i64 a, .int .i64 t] w fun e w' => ∃ v, e = .returned (.tuple #[v, .int .i64 (chargeR l o a t).2]) ∧ OwnKln w' w.heap.size v (chargeR l o a t).1 ∧ Below w.heap.size w w' := by
  have HD := Lib.hid (show chargeR l o a t = (if (linesB l && lineB (⟨o, 1, a, t⟩ : Ln)) = true then (if 0 < sumT l o 1 then (l, 2) else pushR l (⟨o, 1, a, t⟩ : Ln)) else (l, 1)) from rfl)
  have HPU := Lib.hid (fun W (h : InK 4 lnC W (some ⟨g, 0, none⟩) l) => push_spec o 1 a t g ca l W h hn)
  have HLN := Lib.hid (fun W (h : InK 4 lnC W (some ⟨g, 0, none⟩) l) => lines_spec (some ⟨g, 0, none⟩) ca l W h hc hn)
  have HIL := Lib.hid (fun W => isl_spec o 1 a t W)
  have HSM := Lib.hid (fun W (h : InK 4 lnC W (some ⟨g, 0, none⟩) l) => sum_spec o 1 (some ⟨g, 0, none⟩) ca l W h hn)
  have HVL := Lib.hid (fun (hv : linesB l = true) => sum_nonneg (o := o) (k := 1) (linesB_valid hv).1 (linesB_valid hv).2)
  generalize chargeR l o a t = R at *
  generalize pushR l (⟨o, 1, a, t⟩ : Ln) = P at *
  generalize sumT l o 1 = S1 at *
  generalize lineB (⟨o, 1, a, t⟩ : Ln) = LB at *
  generalize linesB l = VL at *
  have HA := Lib.hid hA
  obtain ⟨B, hB⟩ : ∃ B, B = w.heap.size := ⟨_, rfl⟩
  have HB := Lib.hid (show Below B w w by rw [hB]; exact Below.refl _ _); have HSZ := Lib.hid (show B ≤ w.heap.size by rw [hB]; exact Nat.le_refl _)
  have HBE := Lib.hid hB.symm
  clear hA hB
  go_enter Try.func28, Try.ntmps28
  go_wp2_with fail
  refine (HLN.out w HA.out).mono ?_; rintro e_ w1 ⟨rfl, hb⟩
  replace HA := Lib.hid (HA.out.below hb); replace HB := Lib.hid (HB.out.trans (hb.mono HSZ.out)); replace HSZ := Lib.hid (Nat.le_trans HSZ.out hb.size); clear hb
  cases q0 : VL with
  | false =>
    have HV := Lib.hid (HD.out.trans (show _ = (l, 1) by first | (rw [q0]; done) | (rw [q0]; rfl)))
    go_wp2_with fail
    refine (copy_l11 g ca l w1 HA.out hn).mono ?_; rintro e_ wR ⟨G, c, rfl, hr, hb⟩
    have HRR := Lib.hid (OwnK.mono hr HSZ.out : OwnKln wR B (.slice (some ⟨G, 0, none⟩) l.length c) l)
    replace HB := Lib.hid (HB.out.trans (hb.mono HSZ.out)); clear hb hr
    go_wp2
    exact bodyPost_ret (v := .tuple #[.slice (some ⟨G, 0, none⟩) l.length c, .int .i64 1]) (by simp [results, Try.results28, go_sem]) rfl ⟨_, by rw [HV.out], by rw [HV.out]; first | exact HRR.out | (rw [HBE.out]; exact HRR.out), by first | exact HB.out | (rw [HBE.out]; exact HB.out)⟩
  | true =>
  go_wp2_with fail
  refine (HIL.out w1).mono ?_; rintro e_ w2 ⟨rfl, hb⟩
  replace HA := Lib.hid (HA.out.below hb); replace HB := Lib.hid (HB.out.trans (hb.mono HSZ.out)); replace HSZ := Lib.hid (Nat.le_trans HSZ.out hb.size); clear hb
  cases q1 : LB with
  | false =>
    have HV := Lib.hid (HD.out.trans (show _ = (l, 1) by first | (rw [q0, q1]; done) | (rw [q0, q1]; rfl)))
    go_wp2_with fail
    refine (copy_l11 g ca l w2 HA.out hn).mono ?_; rintro e_ wR ⟨G, c, rfl, hr, hb⟩
    have HRR := Lib.hid (OwnK.mono hr HSZ.out : OwnKln wR B (.slice (some ⟨G, 0, none⟩) l.length c) l)
    replace HB := Lib.hid (HB.out.trans (hb.mono HSZ.out)); clear hb hr
    go_wp2
    exact bodyPost_ret (v := .tuple #[.slice (some ⟨G, 0, none⟩) l.length c, .int .i64 1]) (by simp [results, Try.results28, go_sem]) rfl ⟨_, by rw [HV.out], by rw [HV.out]; first | exact HRR.out | (rw [HBE.out]; exact HRR.out), by first | exact HB.out | (rw [HBE.out]; exact HB.out)⟩
  | true =>
  replace HD := Lib.hid (HD.out.trans (show _ = (if 0 < S1 then (l, 2) else P) by rw [q0, q1]; rfl))
  have HS0 := Lib.hid (HVL.out q0)
  clear HVL HLN HIL q0 q1
  go_wp2_with fail
  refine (HSM.out w2 HA.out).mono ?_; rintro e_ w3 ⟨rfl, hb⟩
  replace HA := Lib.hid (HA.out.below hb); replace HB := Lib.hid (HB.out.trans (hb.mono HSZ.out)); replace HSZ := Lib.hid (Nat.le_trans HSZ.out hb.size); clear hb
  by_cases h1 : 0 < S1
  · skip
    have e1 : decide (0 < S1) = true := decide_eq_true h1
    have HV := Lib.hid (HD.out.trans (if_pos h1))
    go_wp2_with fail
    refine (copy_l11 g ca l w3 HA.out hn).mono ?_; rintro e_ wR ⟨G, c, rfl, hr, hb⟩
    have HRR := Lib.hid (OwnK.mono hr HSZ.out : OwnKln wR B (.slice (some ⟨G, 0, none⟩) l.length c) l)
    replace HB := Lib.hid (HB.out.trans (hb.mono HSZ.out)); clear hb hr
    go_wp2
    exact bodyPost_ret (v := .tuple #[.slice (some ⟨G, 0, none⟩) l.length c, .int .i64 2]) (by simp [results, Try.results28, go_sem]) rfl ⟨_, by rw [HV.out], by rw [HV.out]; first | exact HRR.out | (rw [HBE.out]; exact HRR.out), by first | exact HB.out | (rw [HBE.out]; exact HB.out)⟩
  replace HD := Lib.hid (HD.out.trans (if_neg h1))
  have e1 : decide (0 < S1) = false := decide_eq_false h1
  clear h1
  go_wp2_with fail
  refine (HPU.out w3 HA.out).mono ?_; rintro e_ wR ⟨v, rfl, hr, hb⟩
  have HRR := Lib.hid (OwnK.mono hr HSZ.out : OwnKln wR B v P.1)
  replace HB := Lib.hid (HB.out.trans (hb.mono HSZ.out)); clear hb hr
  go_wp2
  exact bodyPost_ret (v := .tuple #[v, .int .i64 P.2]) (by simp [results, Try.results28, go_sem]) rfl ⟨_, by rw [HD.out], by rw [HD.out]; first | exact HRR.out | (rw [HBE.out]; exact HRR.out), by first | exact HB.out | (rw [HBE.out]; exact HB.out)⟩
set_option maxRecDepth 100000 in
set_option maxHeartbeats 2000000 in
theorem pay_impl (o a t : Int) (g ca : Nat) (l : List Ln) (w : World) (hA : InK 4 lnC w (some ⟨g, 0, none⟩) l) (hc : l.length ≤ ca) (hn : l.length ≤ 1048576) :
    Calls Try.prog 33 #[.slice (some ⟨g, 0, none⟩) l.length ca, .int .i64 o, .int .i64 a, .int .i64 t] w fun e w' => ∃ v, e = .returned (.tuple #[v, .int .i64 (payR l o a t).2]) ∧ OwnKln w' w.heap.size v (payR l o a t).1 ∧ Below w.heap.size w w' := by
  have HD := Lib.hid (show payR l o a t = (if (linesB l && lineB (⟨o, 2, a, t⟩ : Ln)) = true then (if sumT l o 1 = 0 then (l, 3) else if owedB l o < a then (l, 4) else pushR l (⟨o, 2, a, t⟩ : Ln)) else (l, 1)) from rfl)
  have HPU := Lib.hid (fun W (h : InK 4 lnC W (some ⟨g, 0, none⟩) l) => push_impl o 2 a t g ca l W h hn)
  have HLN := Lib.hid (fun W (h : InK 4 lnC W (some ⟨g, 0, none⟩) l) => lines_impl (some ⟨g, 0, none⟩) ca l W h hc hn)
  have HIL := Lib.hid (fun W => isl_impl o 2 a t W)
  have HSM := Lib.hid (fun W (h : InK 4 lnC W (some ⟨g, 0, none⟩) l) => sum_impl o 1 (some ⟨g, 0, none⟩) ca l W h hn)
  have HOW := Lib.hid (fun (hv : linesB l = true) W (h : InK 4 lnC W (some ⟨g, 0, none⟩) l) => (show Calls Try.prog 68 #[.slice (some ⟨g, 0, none⟩) l.length ca, .int .i64 o] W fun e w' => e = .returned (.int .i64 (owedB l o)) ∧ Below W.heap.size W w' by
    rw [show owedB l o = sumT l o 1 - sumT l o 2 by unfold owedB; rw [hv]; rfl]
    exact owedU o (some ⟨g, 0, none⟩) ca l W h hv))
  have HVL := Lib.hid (fun (hv : linesB l = true) => sum_nonneg (o := o) (k := 1) (linesB_valid hv).1 (linesB_valid hv).2)
  generalize payR l o a t = R at *
  generalize pushR l (⟨o, 2, a, t⟩ : Ln) = P at *
  generalize sumT l o 1 = S1 at *
  generalize lineB (⟨o, 2, a, t⟩ : Ln) = LB at *
  generalize linesB l = VL at *
  generalize owedB l o = U at *
  have hbA := (Below.refl w.heap.size w).alloc (Nat.le_refl _) (.cells #[.int .i64 o, .int .i64 2, .int .i64 a, .int .i64 t] 25)
  have HX := Lib.hid (Bx.new (T := 25) w [.int .i64 o, .int .i64 2, .int .i64 a, .int .i64 t])
  have HA := Lib.hid (hA.below hbA)
  have HB := Lib.hid hbA; have HSZ := Lib.hid hbA.size
  clear hA hbA
  generalize hB : w.heap.size = B at *
  have HBE := Lib.hid hB
  go_enter Try.func33, Try.ntmps33
  go_upto_region 2 with (fail)
  clear hB
  change Hid (Bx 25 (w.alloc (.cells #[.int .i64 o, .int .i64 2, .int .i64 a, .int .i64 t] 25)) B [.int .i64 o, .int .i64 2, .int .i64 a, .int .i64 t]) at HX
  generalize w.alloc (.cells #[.int .i64 o, .int .i64 2, .int .i64 a, .int .i64 t] 25) = W0 at *
  have x0_ := HX.out.cell 0 _ rfl; have x1_ := HX.out.cell 1 _ rfl; have x2_ := HX.out.cell 2 _ rfl; have x3_ := HX.out.cell 3 _ rfl
  go_wp2_with fail
  clear x0_ x1_ x2_ x3_
  refine (HLN.out W0 HA.out).mono ?_; rintro e_ w1 ⟨rfl, hb⟩
  replace HA := Lib.hid (HA.out.below hb); replace HB := Lib.hid (HB.out.trans (hb.mono HSZ.out)); replace HSZ := Lib.hid (Nat.le_trans HSZ.out hb.size); replace HX := Lib.hid (HX.out.below hb); clear hb
  cases q0 : VL with
  | false =>
    have HV := Lib.hid (HD.out.trans (show _ = (l, 1) by first | (rw [q0]; done) | (rw [q0]; rfl)))
    have x0_ := HX.out.cell 0 _ rfl; have x1_ := HX.out.cell 1 _ rfl; have x2_ := HX.out.cell 2 _ rfl; have x3_ := HX.out.cell 3 _ rfl
    go_wp2_with fail
    clear x0_ x1_ x2_ x3_
    refine (clone_ln g ca l w1 HA.out hn).mono ?_; rintro e_ wR ⟨G, c, rfl, hr, hb⟩
    have HRR := Lib.hid (OwnK.mono hr HSZ.out : OwnKln wR B (.slice (some ⟨G, 0, none⟩) l.length c) l)
    replace HB := Lib.hid (HB.out.trans (hb.mono HSZ.out)); clear hb hr
    go_wp2
    exact bodyPost_ret (v := .tuple #[.slice (some ⟨G, 0, none⟩) l.length c, .int .i64 1]) (by simp [results, Try.results33, go_sem]) rfl ⟨_, by rw [HV.out], by rw [HV.out]; first | exact HRR.out | (rw [HBE.out]; exact HRR.out), by first | exact HB.out | (rw [HBE.out]; exact HB.out)⟩
  | true =>
  have x0_ := HX.out.cell 0 _ rfl; have x1_ := HX.out.cell 1 _ rfl; have x2_ := HX.out.cell 2 _ rfl; have x3_ := HX.out.cell 3 _ rfl
  go_wp2_with fail
  clear x0_ x1_ x2_ x3_
  refine (HIL.out w1).mono ?_; rintro e_ w2 ⟨rfl, hb⟩
  replace HA := Lib.hid (HA.out.below hb); replace HB := Lib.hid (HB.out.trans (hb.mono HSZ.out)); replace HSZ := Lib.hid (Nat.le_trans HSZ.out hb.size); replace HX := Lib.hid (HX.out.below hb); clear hb
  cases q1 : LB with
  | false =>
    have HV := Lib.hid (HD.out.trans (show _ = (l, 1) by first | (rw [q0, q1]; done) | (rw [q0, q1]; rfl)))
    have x0_ := HX.out.cell 0 _ rfl; have x1_ := HX.out.cell 1 _ rfl; have x2_ := HX.out.cell 2 _ rfl; have x3_ := HX.out.cell 3 _ rfl
    go_wp2_with fail
    clear x0_ x1_ x2_ x3_
    refine (clone_ln g ca l w2 HA.out hn).mono ?_; rintro e_ wR ⟨G, c, rfl, hr, hb⟩
    have HRR := Lib.hid (OwnK.mono hr HSZ.out : OwnKln wR B (.slice (some ⟨G, 0, none⟩) l.length c) l)
    replace HB := Lib.hid (HB.out.trans (hb.mono HSZ.out)); clear hb hr
    go_wp2
    exact bodyPost_ret (v := .tuple #[.slice (some ⟨G, 0, none⟩) l.length c, .int .i64 1]) (by simp [results, Try.results33, go_sem]) rfl ⟨_, by rw [HV.out], by rw [HV.out]; first | exact HRR.out | (rw [HBE.out]; exact HRR.out), by first | exact HB.out | (rw [HBE.out]; exact HB.out)⟩
  | true =>
  replace HD := Lib.hid (HD.out.trans (show _ = (if S1 = 0 then (l, 3) else if U < a then (l, 4) else P) by rw [q0, q1]; rfl))
  have HS0 := Lib.hid (HVL.out q0)
  have HOV := Lib.hid (HOW.out q0); clear HOW
  clear HVL HLN HIL q0 q1
  have x0_ := HX.out.cell 0 _ rfl; have x1_ := HX.out.cell 1 _ rfl; have x2_ := HX.out.cell 2 _ rfl; have x3_ := HX.out.cell 3 _ rfl
  go_wp2_with fail
  clear x0_ x1_ x2_ x3_
  refine (HSM.out w2 HA.out).mono ?_; rintro e_ w3 ⟨rfl, hb⟩
  replace HA := Lib.hid (HA.out.below hb); replace HB := Lib.hid (HB.out.trans (hb.mono HSZ.out)); replace HSZ := Lib.hid (Nat.le_trans HSZ.out hb.size); replace HX := Lib.hid (HX.out.below hb); clear hb
  by_cases h1 : S1 = 0
  · skip
    have e1 : (S1 == 0) = true := by simp [h1]
    have HH1 := Lib.hid h1; clear h1
    have HV := Lib.hid (HD.out.trans (if_pos HH1.out))
    have x0_ := HX.out.cell 0 _ rfl; have x1_ := HX.out.cell 1 _ rfl; have x2_ := HX.out.cell 2 _ rfl; have x3_ := HX.out.cell 3 _ rfl
    go_wp2_with fail
    clear x0_ x1_ x2_ x3_
    refine (clone_ln g ca l w3 HA.out hn).mono ?_; rintro e_ wR ⟨G, c, rfl, hr, hb⟩
    have HRR := Lib.hid (OwnK.mono hr HSZ.out : OwnKln wR B (.slice (some ⟨G, 0, none⟩) l.length c) l)
    replace HB := Lib.hid (HB.out.trans (hb.mono HSZ.out)); clear hb hr
    go_wp2
    exact bodyPost_ret (v := .tuple #[.slice (some ⟨G, 0, none⟩) l.length c, .int .i64 3]) (by simp [results, Try.results33, go_sem]) rfl ⟨_, by rw [HV.out], by rw [HV.out]; first | exact HRR.out | (rw [HBE.out]; exact HRR.out), by first | exact HB.out | (rw [HBE.out]; exact HB.out)⟩
  replace HD := Lib.hid (HD.out.trans (if_neg h1))
  have e1 : (S1 == 0) = false := by simp [h1]
  clear h1
  have x0_ := HX.out.cell 0 _ rfl; have x1_ := HX.out.cell 1 _ rfl; have x2_ := HX.out.cell 2 _ rfl; have x3_ := HX.out.cell 3 _ rfl
  go_wp2_with fail
  clear x0_ x1_ x2_ x3_
  refine (HOV.out w3 HA.out).mono ?_; rintro e_ w4 ⟨rfl, hb⟩
  replace HA := Lib.hid (HA.out.below hb); replace HB := Lib.hid (HB.out.trans (hb.mono HSZ.out)); replace HSZ := Lib.hid (Nat.le_trans HSZ.out hb.size); replace HX := Lib.hid (HX.out.below hb); clear hb
  by_cases h2 : U < a
  · skip
    have e2 : decide (U < a) = true := decide_eq_true h2
    have HV := Lib.hid (HD.out.trans (if_pos h2))
    have x0_ := HX.out.cell 0 _ rfl; have x1_ := HX.out.cell 1 _ rfl; have x2_ := HX.out.cell 2 _ rfl; have x3_ := HX.out.cell 3 _ rfl
    go_wp2_with fail
    clear x0_ x1_ x2_ x3_
    refine (clone_ln g ca l w4 HA.out hn).mono ?_; rintro e_ wR ⟨G, c, rfl, hr, hb⟩
    have HRR := Lib.hid (OwnK.mono hr HSZ.out : OwnKln wR B (.slice (some ⟨G, 0, none⟩) l.length c) l)
    replace HB := Lib.hid (HB.out.trans (hb.mono HSZ.out)); clear hb hr
    go_wp2
    exact bodyPost_ret (v := .tuple #[.slice (some ⟨G, 0, none⟩) l.length c, .int .i64 4]) (by simp [results, Try.results33, go_sem]) rfl ⟨_, by rw [HV.out], by rw [HV.out]; first | exact HRR.out | (rw [HBE.out]; exact HRR.out), by first | exact HB.out | (rw [HBE.out]; exact HB.out)⟩
  replace HD := Lib.hid (HD.out.trans (if_neg h2))
  have e2 : decide (U < a) = false := decide_eq_false h2
  clear h2
  have x0_ := HX.out.cell 0 _ rfl; have x1_ := HX.out.cell 1 _ rfl; have x2_ := HX.out.cell 2 _ rfl; have x3_ := HX.out.cell 3 _ rfl
  go_wp2_with fail
  clear x0_ x1_ x2_ x3_
  refine (HPU.out w4 HA.out).mono ?_; rintro e_ wR ⟨v, rfl, hr, hb⟩
  have HRR := Lib.hid (OwnK.mono hr HSZ.out : OwnKln wR B v P.1)
  replace HB := Lib.hid (HB.out.trans (hb.mono HSZ.out)); clear hb hr
  go_wp2
  exact bodyPost_ret (v := .tuple #[v, .int .i64 P.2]) (by simp [results, Try.results33, go_sem]) rfl ⟨_, by rw [HD.out], by rw [HD.out]; first | exact HRR.out | (rw [HBE.out]; exact HRR.out), by first | exact HB.out | (rw [HBE.out]; exact HB.out)⟩
set_option maxRecDepth 100000 in
set_option maxHeartbeats 2000000 in
theorem pay_spec (o a t : Int) (g ca : Nat) (l : List Ln) (w : World) (hA : InK 4 lnC w (some ⟨g, 0, none⟩) l) (hc : l.length ≤ ca) (hn : l.length ≤ 1048576) :
    Calls Try.prog 32 #[.slice (some ⟨g, 0, none⟩) l.length ca, .int .i64 o, .int .i64 a, .int .i64 t] w fun e w' => ∃ v, e = .returned (.tuple #[v, .int .i64 (payR l o a t).2]) ∧ OwnKln w' w.heap.size v (payR l o a t).1 ∧ Below w.heap.size w w' := by
  have HD := Lib.hid (show payR l o a t = (if (linesB l && lineB (⟨o, 2, a, t⟩ : Ln)) = true then (if sumT l o 1 = 0 then (l, 3) else if owedB l o < a then (l, 4) else pushR l (⟨o, 2, a, t⟩ : Ln)) else (l, 1)) from rfl)
  have HPU := Lib.hid (fun W (h : InK 4 lnC W (some ⟨g, 0, none⟩) l) => push_spec o 2 a t g ca l W h hn)
  have HLN := Lib.hid (fun W (h : InK 4 lnC W (some ⟨g, 0, none⟩) l) => lines_spec (some ⟨g, 0, none⟩) ca l W h hc hn)
  have HIL := Lib.hid (fun W => isl_spec o 2 a t W)
  have HSM := Lib.hid (fun W (h : InK 4 lnC W (some ⟨g, 0, none⟩) l) => sum_spec o 1 (some ⟨g, 0, none⟩) ca l W h hn)
  have HOW := Lib.hid (fun (_ : linesB l = true) W (h : InK 4 lnC W (some ⟨g, 0, none⟩) l) => owed_spec o (some ⟨g, 0, none⟩) ca l W h hc hn)
  have HVL := Lib.hid (fun (hv : linesB l = true) => sum_nonneg (o := o) (k := 1) (linesB_valid hv).1 (linesB_valid hv).2)
  generalize payR l o a t = R at *
  generalize pushR l (⟨o, 2, a, t⟩ : Ln) = P at *
  generalize sumT l o 1 = S1 at *
  generalize lineB (⟨o, 2, a, t⟩ : Ln) = LB at *
  generalize linesB l = VL at *
  generalize owedB l o = U at *
  have HA := Lib.hid hA
  obtain ⟨B, hB⟩ : ∃ B, B = w.heap.size := ⟨_, rfl⟩
  have HB := Lib.hid (show Below B w w by rw [hB]; exact Below.refl _ _); have HSZ := Lib.hid (show B ≤ w.heap.size by rw [hB]; exact Nat.le_refl _)
  have HBE := Lib.hid hB.symm
  clear hA hB
  go_enter Try.func32, Try.ntmps32
  go_wp2_with fail
  refine (HLN.out w HA.out).mono ?_; rintro e_ w1 ⟨rfl, hb⟩
  replace HA := Lib.hid (HA.out.below hb); replace HB := Lib.hid (HB.out.trans (hb.mono HSZ.out)); replace HSZ := Lib.hid (Nat.le_trans HSZ.out hb.size); clear hb
  cases q0 : VL with
  | false =>
    have HV := Lib.hid (HD.out.trans (show _ = (l, 1) by first | (rw [q0]; done) | (rw [q0]; rfl)))
    go_wp2_with fail
    refine (copy_l11 g ca l w1 HA.out hn).mono ?_; rintro e_ wR ⟨G, c, rfl, hr, hb⟩
    have HRR := Lib.hid (OwnK.mono hr HSZ.out : OwnKln wR B (.slice (some ⟨G, 0, none⟩) l.length c) l)
    replace HB := Lib.hid (HB.out.trans (hb.mono HSZ.out)); clear hb hr
    go_wp2
    exact bodyPost_ret (v := .tuple #[.slice (some ⟨G, 0, none⟩) l.length c, .int .i64 1]) (by simp [results, Try.results32, go_sem]) rfl ⟨_, by rw [HV.out], by rw [HV.out]; first | exact HRR.out | (rw [HBE.out]; exact HRR.out), by first | exact HB.out | (rw [HBE.out]; exact HB.out)⟩
  | true =>
  go_wp2_with fail
  refine (HIL.out w1).mono ?_; rintro e_ w2 ⟨rfl, hb⟩
  replace HA := Lib.hid (HA.out.below hb); replace HB := Lib.hid (HB.out.trans (hb.mono HSZ.out)); replace HSZ := Lib.hid (Nat.le_trans HSZ.out hb.size); clear hb
  cases q1 : LB with
  | false =>
    have HV := Lib.hid (HD.out.trans (show _ = (l, 1) by first | (rw [q0, q1]; done) | (rw [q0, q1]; rfl)))
    go_wp2_with fail
    refine (copy_l11 g ca l w2 HA.out hn).mono ?_; rintro e_ wR ⟨G, c, rfl, hr, hb⟩
    have HRR := Lib.hid (OwnK.mono hr HSZ.out : OwnKln wR B (.slice (some ⟨G, 0, none⟩) l.length c) l)
    replace HB := Lib.hid (HB.out.trans (hb.mono HSZ.out)); clear hb hr
    go_wp2
    exact bodyPost_ret (v := .tuple #[.slice (some ⟨G, 0, none⟩) l.length c, .int .i64 1]) (by simp [results, Try.results32, go_sem]) rfl ⟨_, by rw [HV.out], by rw [HV.out]; first | exact HRR.out | (rw [HBE.out]; exact HRR.out), by first | exact HB.out | (rw [HBE.out]; exact HB.out)⟩
  | true =>
  replace HD := Lib.hid (HD.out.trans (show _ = (if S1 = 0 then (l, 3) else if U < a then (l, 4) else P) by rw [q0, q1]; rfl))
  have HS0 := Lib.hid (HVL.out q0)
  have HOV := Lib.hid (HOW.out q0); clear HOW
  clear HVL HLN HIL q0 q1
  go_wp2_with fail
  refine (HSM.out w2 HA.out).mono ?_; rintro e_ w3 ⟨rfl, hb⟩
  replace HA := Lib.hid (HA.out.below hb); replace HB := Lib.hid (HB.out.trans (hb.mono HSZ.out)); replace HSZ := Lib.hid (Nat.le_trans HSZ.out hb.size); clear hb
  by_cases h1 : S1 = 0
  · skip
    have e1 : (S1 == 0) = true := by simp [h1]
    have HH1 := Lib.hid h1; clear h1
    have HV := Lib.hid (HD.out.trans (if_pos HH1.out))
    go_wp2_with fail
    refine (copy_l11 g ca l w3 HA.out hn).mono ?_; rintro e_ wR ⟨G, c, rfl, hr, hb⟩
    have HRR := Lib.hid (OwnK.mono hr HSZ.out : OwnKln wR B (.slice (some ⟨G, 0, none⟩) l.length c) l)
    replace HB := Lib.hid (HB.out.trans (hb.mono HSZ.out)); clear hb hr
    go_wp2
    exact bodyPost_ret (v := .tuple #[.slice (some ⟨G, 0, none⟩) l.length c, .int .i64 3]) (by simp [results, Try.results32, go_sem]) rfl ⟨_, by rw [HV.out], by rw [HV.out]; first | exact HRR.out | (rw [HBE.out]; exact HRR.out), by first | exact HB.out | (rw [HBE.out]; exact HB.out)⟩
  replace HD := Lib.hid (HD.out.trans (if_neg h1))
  have e1 : (S1 == 0) = false := by simp [h1]
  clear h1
  go_wp2_with fail
  refine (HOV.out w3 HA.out).mono ?_; rintro e_ w4 ⟨rfl, hb⟩
  replace HA := Lib.hid (HA.out.below hb); replace HB := Lib.hid (HB.out.trans (hb.mono HSZ.out)); replace HSZ := Lib.hid (Nat.le_trans HSZ.out hb.size); clear hb
  by_cases h2 : U < a
  · skip
    have e2 : decide (U < a) = true := decide_eq_true h2
    have HV := Lib.hid (HD.out.trans (if_pos h2))
    go_wp2_with fail
    refine (copy_l11 g ca l w4 HA.out hn).mono ?_; rintro e_ wR ⟨G, c, rfl, hr, hb⟩
    have HRR := Lib.hid (OwnK.mono hr HSZ.out : OwnKln wR B (.slice (some ⟨G, 0, none⟩) l.length c) l)
    replace HB := Lib.hid (HB.out.trans (hb.mono HSZ.out)); clear hb hr
    go_wp2
    exact bodyPost_ret (v := .tuple #[.slice (some ⟨G, 0, none⟩) l.length c, .int .i64 4]) (by simp [results, Try.results32, go_sem]) rfl ⟨_, by rw [HV.out], by rw [HV.out]; first | exact HRR.out | (rw [HBE.out]; exact HRR.out), by first | exact HB.out | (rw [HBE.out]; exact HB.out)⟩
  replace HD := Lib.hid (HD.out.trans (if_neg h2))
  have e2 : decide (U < a) = false := decide_eq_false h2
  clear h2
  go_wp2_with fail
  refine (HPU.out w4 HA.out).mono ?_; rintro e_ wR ⟨v, rfl, hr, hb⟩
  have HRR := Lib.hid (OwnK.mono hr HSZ.out : OwnKln wR B v P.1)
  replace HB := Lib.hid (HB.out.trans (hb.mono HSZ.out)); clear hb hr
  go_wp2
  exact bodyPost_ret (v := .tuple #[v, .int .i64 P.2]) (by simp [results, Try.results32, go_sem]) rfl ⟨_, by rw [HD.out], by rw [HD.out]; first | exact HRR.out | (rw [HBE.out]; exact HRR.out), by first | exact HB.out | (rw [HBE.out]; exact HB.out)⟩
end Go.Proofs.Ytadcmngooobeiaa
