/- RefundOrder, both texts. Written by mk/lnq.py. -/
import Derived.Test.YtadcmngooobeiaaLnP0
import Derived.Test.YtadcmngooobeiaaRefd
namespace Go.Proofs.Ytadcmngooobeiaa
open Go.RowKit
def refundR (l : List Ln) (o u e : Int) (ps : List Int) (t : Int) : List Ln × Int :=
  if linesB l && (percB ps && (inB o 1 9999 && inB t 0 100000)) then
    (if sumT l o 1 = 0 ∨ 0 < owedB l o then (l, 3) else if 0 < sumT l o 3 then (l, 2) else if refB (sumT l o 1) u e ps = 0 then (l, 4) else pushR l ⟨o, 3, refB (sumT l o 1) u e ps, t⟩)
  else (l, 1)
theorem refund_len {l : List Ln} {o u e : Int} {ps : List Int} {t : Int} (h : l.length ≤ 1048576) : (refundR l o u e ps t).1.length ≤ 1048576 := by
  unfold refundR; split
  · split
    · exact h
    · split
      · exact h
      · split
        · exact h
        · exact push_len _ _ h
  · exact h
set_option maxRecDepth 100000 in
set_option maxHeartbeats 2000000 in
theorem refo_impl (o u e : Int) (A4 : Option Addr) (k4 : Nat) (ps : List Int) (t : Int) (g ca : Nat) (l : List Ln) (w : World) (hA : InK 4 lnC w (some ⟨g, 0, none⟩) l) (hc : l.length ≤ ca) (hn : l.length ≤ 1048576) (hP : IntsIn w A4 ps) (hm : ps.length ≤ 1048576) :
    Calls Try.prog 43 #[.slice (some ⟨g, 0, none⟩) l.length ca, .int .i64 o, .int .i64 u, .int .i64 e, .slice A4 ps.length k4, .int .i64 t] w fun e_ w' => ∃ v, e_ = .returned (.tuple #[v, .int .i64 (refundR l o u e ps t).2]) ∧ OwnKln w' w.heap.size v (refundR l o u e ps t).1 ∧ Below w.heap.size w w' := by
  have HD := Lib.hid (show refundR l o u e ps t = (if (linesB l && (percB ps && (inB o 1 9999 && inB t 0 100000))) = true then (if sumT l o 1 = 0 ∨ 0 < owedB l o then (l, 3) else if 0 < sumT l o 3 then (l, 2) else if refB (sumT l o 1) u e ps = 0 then (l, 4) else pushR l (⟨o, 3, refB (sumT l o 1) u e ps, t⟩ : Ln)) else (l, 1)) from rfl)
  have HPU := Lib.hid (fun W (h : InK 4 lnC W (some ⟨g, 0, none⟩) l) => push_impl o 3 (refB (sumT l o 1) u e ps) t g ca l W h hn)
  have HLN := Lib.hid (fun W (h : InK 4 lnC W (some ⟨g, 0, none⟩) l) => lines_impl (some ⟨g, 0, none⟩) ca l W h hc hn)
  have HSM := Lib.hid (fun W (h : InK 4 lnC W (some ⟨g, 0, none⟩) l) => sum_impl o 1 (some ⟨g, 0, none⟩) ca l W h hn)
  have HPC := Lib.hid (fun W (h : IntsIn W A4 ps) => perc_impl A4 k4 ps W h hm)
  have HRF := Lib.hid (fun W (h : IntsIn W A4 ps) => refd_impl (sumT l o 1) u e A4 k4 ps W h hm)
  have HOW := Lib.hid (fun (hv : linesB l = true) W (h : InK 4 lnC W (some ⟨g, 0, none⟩) l) => (show Calls Try.prog 68 #[.slice (some ⟨g, 0, none⟩) l.length ca, .int .i64 o] W fun e w' => e = .returned (.int .i64 (owedB l o)) ∧ Below W.heap.size W w' by
    rw [show owedB l o = sumT l o 1 - sumT l o 2 by unfold owedB; rw [hv]; rfl]
    exact owedU o (some ⟨g, 0, none⟩) ca l W h hv))
  have HS3 := Lib.hid (fun (_ : linesB l = true) W (h : InK 4 lnC W (some ⟨g, 0, none⟩) l) => sum_impl o 3 (some ⟨g, 0, none⟩) ca l W h hn)
  have HVL := Lib.hid (fun (hv : linesB l = true) => sum_nonneg (o := o) (k := 1) (linesB_valid hv).1 (linesB_valid hv).2)
  generalize refundR l o u e ps t = R at *
  generalize pushR l (⟨o, 3, refB (sumT l o 1) u e ps, t⟩ : Ln) = P at *
  generalize refB (sumT l o 1) u e ps = RF at *
  generalize sumT l o 1 = S1 at *
  generalize sumT l o 3 = S3 at *
  generalize linesB l = VL at *
  generalize percB ps = PB at *
  generalize owedB l o = U at *
  have HA := Lib.hid hA
  have HP4 := Lib.hid hP
  obtain ⟨B, hB⟩ : ∃ B, B = w.heap.size := ⟨_, rfl⟩
  have HB := Lib.hid (show Below B w w by rw [hB]; exact Below.refl _ _); have HSZ := Lib.hid (show B ≤ w.heap.size by rw [hB]; exact Nat.le_refl _)
  have HBE := Lib.hid hB.symm
  clear hA hP hB
  go_enter Try.func43, Try.ntmps43
  go_wp2_with fail
  refine (HLN.out w HA.out).mono ?_; rintro e_ w1 ⟨rfl, hb⟩
  replace HA := Lib.hid (HA.out.below hb); replace HB := Lib.hid (HB.out.trans (hb.mono HSZ.out)); replace HSZ := Lib.hid (Nat.le_trans HSZ.out hb.size); replace HP4 := Lib.hid (HP4.out.below hb); clear hb
  cases q0 : VL with
  | false =>
    have HV := Lib.hid (HD.out.trans (show _ = (l, 1) by first | (rw [q0]; done) | (rw [q0]; rfl)))
    go_wp2_with fail
    refine (clone_ln g ca l w1 HA.out hn).mono ?_; rintro e_ wR ⟨G, c, rfl, hr, hb⟩
    have HRR := Lib.hid (OwnK.mono hr HSZ.out : OwnKln wR B (.slice (some ⟨G, 0, none⟩) l.length c) l)
    replace HB := Lib.hid (HB.out.trans (hb.mono HSZ.out)); clear hb hr
    go_wp2
    exact bodyPost_ret (v := .tuple #[.slice (some ⟨G, 0, none⟩) l.length c, .int .i64 1]) (by simp [results, Try.results43, go_sem]) rfl ⟨_, by rw [HV.out], by rw [HV.out]; first | exact HRR.out | (rw [HBE.out]; exact HRR.out), by first | exact HB.out | (rw [HBE.out]; exact HB.out)⟩
  | true =>
  go_wp2_with fail
  refine (HPC.out w1 HP4.out).mono ?_; rintro e_ w2 ⟨rfl, hb⟩
  replace HA := Lib.hid (HA.out.below hb); replace HB := Lib.hid (HB.out.trans (hb.mono HSZ.out)); replace HSZ := Lib.hid (Nat.le_trans HSZ.out hb.size); replace HP4 := Lib.hid (HP4.out.below hb); clear hb
  cases q1 : PB with
  | false =>
    have HV := Lib.hid (HD.out.trans (show _ = (l, 1) by first | (rw [q0, q1]; done) | (rw [q0, q1]; rfl)))
    go_wp2_with fail
    refine (clone_ln g ca l w2 HA.out hn).mono ?_; rintro e_ wR ⟨G, c, rfl, hr, hb⟩
    have HRR := Lib.hid (OwnK.mono hr HSZ.out : OwnKln wR B (.slice (some ⟨G, 0, none⟩) l.length c) l)
    replace HB := Lib.hid (HB.out.trans (hb.mono HSZ.out)); clear hb hr
    go_wp2
    exact bodyPost_ret (v := .tuple #[.slice (some ⟨G, 0, none⟩) l.length c, .int .i64 1]) (by simp [results, Try.results43, go_sem]) rfl ⟨_, by rw [HV.out], by rw [HV.out]; first | exact HRR.out | (rw [HBE.out]; exact HRR.out), by first | exact HB.out | (rw [HBE.out]; exact HB.out)⟩
  | true =>
  have HQ2 := Lib.hid (show inB o 1 9999 = (decide (1 ≤ o) && decide (o ≤ 9999)) by unfold inB; rw [Bool.decide_and])
  have HQ3 := Lib.hid (show inB t 0 100000 = (decide (0 ≤ t) && decide (t ≤ 100000)) by unfold inB; rw [Bool.decide_and])
  by_cases c0 : 1 ≤ o
  rotate_left
  · skip
    have d0 : o < 1 := by omega
    have hF : inB o 1 9999 = false := HQ2.out.trans (by rw [decide_eq_false c0]; simp only [Bool.false_and])
    have HF := Lib.hid hF; clear hF c0
    have HFF := Lib.hid (show (VL && (PB && (inB o 1 9999 && inB t 0 100000))) = false by rw [HF.out]; simp only [Bool.false_and, Bool.and_false])
    have HV := Lib.hid (HD.out.trans (show _ = (l, 1) by first | (rw [HFF.out]; done) | (rw [HFF.out]; rfl)))
    go_wp2_with fail
    refine (clone_ln g ca l w2 HA.out hn).mono ?_; rintro e_ wR ⟨G, c, rfl, hr, hb⟩
    have HRR := Lib.hid (OwnK.mono hr HSZ.out : OwnKln wR B (.slice (some ⟨G, 0, none⟩) l.length c) l)
    replace HB := Lib.hid (HB.out.trans (hb.mono HSZ.out)); clear hb hr
    go_wp2
    exact bodyPost_ret (v := .tuple #[.slice (some ⟨G, 0, none⟩) l.length c, .int .i64 1]) (by simp [results, Try.results43, go_sem]) rfl ⟨_, by rw [HV.out], by rw [HV.out]; first | exact HRR.out | (rw [HBE.out]; exact HRR.out), by first | exact HB.out | (rw [HBE.out]; exact HB.out)⟩
  have d0 : ¬ o < 1 := by omega
  by_cases c1 : o ≤ 9999
  rotate_left
  · skip
    have d1 : 9999 < o := by omega
    have hF : inB o 1 9999 = false := HQ2.out.trans (by rw [decide_eq_false c1]; simp only [Bool.and_false])
    have HF := Lib.hid hF; clear hF c1
    have HFF := Lib.hid (show (VL && (PB && (inB o 1 9999 && inB t 0 100000))) = false by rw [HF.out]; simp only [Bool.false_and, Bool.and_false])
    have HV := Lib.hid (HD.out.trans (show _ = (l, 1) by first | (rw [HFF.out]; done) | (rw [HFF.out]; rfl)))
    go_wp2_with fail
    refine (clone_ln g ca l w2 HA.out hn).mono ?_; rintro e_ wR ⟨G, c, rfl, hr, hb⟩
    have HRR := Lib.hid (OwnK.mono hr HSZ.out : OwnKln wR B (.slice (some ⟨G, 0, none⟩) l.length c) l)
    replace HB := Lib.hid (HB.out.trans (hb.mono HSZ.out)); clear hb hr
    go_wp2
    exact bodyPost_ret (v := .tuple #[.slice (some ⟨G, 0, none⟩) l.length c, .int .i64 1]) (by simp [results, Try.results43, go_sem]) rfl ⟨_, by rw [HV.out], by rw [HV.out]; first | exact HRR.out | (rw [HBE.out]; exact HRR.out), by first | exact HB.out | (rw [HBE.out]; exact HB.out)⟩
  have d1 : ¬ 9999 < o := by omega
  by_cases c2 : 0 ≤ t
  rotate_left
  · skip
    have d2 : t < 0 := by omega
    have hF : inB t 0 100000 = false := HQ3.out.trans (by rw [decide_eq_false c2]; simp only [Bool.false_and])
    have HF := Lib.hid hF; clear hF c2
    have HFF := Lib.hid (show (VL && (PB && (inB o 1 9999 && inB t 0 100000))) = false by rw [HF.out]; simp only [Bool.and_false])
    have HV := Lib.hid (HD.out.trans (show _ = (l, 1) by first | (rw [HFF.out]; done) | (rw [HFF.out]; rfl)))
    go_wp2_with fail
    refine (clone_ln g ca l w2 HA.out hn).mono ?_; rintro e_ wR ⟨G, c, rfl, hr, hb⟩
    have HRR := Lib.hid (OwnK.mono hr HSZ.out : OwnKln wR B (.slice (some ⟨G, 0, none⟩) l.length c) l)
    replace HB := Lib.hid (HB.out.trans (hb.mono HSZ.out)); clear hb hr
    go_wp2
    exact bodyPost_ret (v := .tuple #[.slice (some ⟨G, 0, none⟩) l.length c, .int .i64 1]) (by simp [results, Try.results43, go_sem]) rfl ⟨_, by rw [HV.out], by rw [HV.out]; first | exact HRR.out | (rw [HBE.out]; exact HRR.out), by first | exact HB.out | (rw [HBE.out]; exact HB.out)⟩
  have d2 : ¬ t < 0 := by omega
  by_cases c3 : t ≤ 100000
  rotate_left
  · skip
    have d3 : 100000 < t := by omega
    have hF : inB t 0 100000 = false := HQ3.out.trans (by rw [decide_eq_false c3]; simp only [Bool.and_false])
    have HF := Lib.hid hF; clear hF c3
    have HFF := Lib.hid (show (VL && (PB && (inB o 1 9999 && inB t 0 100000))) = false by rw [HF.out]; simp only [Bool.and_false])
    have HV := Lib.hid (HD.out.trans (show _ = (l, 1) by first | (rw [HFF.out]; done) | (rw [HFF.out]; rfl)))
    go_wp2_with fail
    refine (clone_ln g ca l w2 HA.out hn).mono ?_; rintro e_ wR ⟨G, c, rfl, hr, hb⟩
    have HRR := Lib.hid (OwnK.mono hr HSZ.out : OwnKln wR B (.slice (some ⟨G, 0, none⟩) l.length c) l)
    replace HB := Lib.hid (HB.out.trans (hb.mono HSZ.out)); clear hb hr
    go_wp2
    exact bodyPost_ret (v := .tuple #[.slice (some ⟨G, 0, none⟩) l.length c, .int .i64 1]) (by simp [results, Try.results43, go_sem]) rfl ⟨_, by rw [HV.out], by rw [HV.out]; first | exact HRR.out | (rw [HBE.out]; exact HRR.out), by first | exact HB.out | (rw [HBE.out]; exact HB.out)⟩
  have d3 : ¬ 100000 < t := by omega
  have q2 : inB o 1 9999 = true := HQ2.out.trans (by rw [decide_eq_true c0, decide_eq_true c1]; rfl)
  have q3 : inB t 0 100000 = true := HQ3.out.trans (by rw [decide_eq_true c2, decide_eq_true c3]; rfl)
  replace HD := Lib.hid (HD.out.trans (show _ = (if S1 = 0 ∨ 0 < U then (l, 3) else if 0 < S3 then (l, 2) else if RF = 0 then (l, 4) else P) by rw [q0, q1, q2, q3]; rfl))
  have HS0 := Lib.hid (HVL.out q0)
  have HOV := Lib.hid (HOW.out q0); have HC3 := Lib.hid (HS3.out q0)
  clear HOW HS3 HVL HLN HPC q0 q1 q2 q3 HQ2 HQ3
  go_wp2_with fail
  refine (HSM.out w2 HA.out).mono ?_; rintro e_ w3 ⟨rfl, hb⟩
  replace HA := Lib.hid (HA.out.below hb); replace HB := Lib.hid (HB.out.trans (hb.mono HSZ.out)); replace HSZ := Lib.hid (Nat.le_trans HSZ.out hb.size); replace HP4 := Lib.hid (HP4.out.below hb); clear hb
  by_cases h1 : S1 = 0
  · skip
    have e1 : (S1 == 0) = true := by simp [h1]
    have HH1 := Lib.hid h1; clear h1
    have HV := Lib.hid (HD.out.trans (if_pos (.inl HH1.out)))
    go_wp2_with fail
    refine (clone_ln g ca l w3 HA.out hn).mono ?_; rintro e_ wR ⟨G, c, rfl, hr, hb⟩
    have HRR := Lib.hid (OwnK.mono hr HSZ.out : OwnKln wR B (.slice (some ⟨G, 0, none⟩) l.length c) l)
    replace HB := Lib.hid (HB.out.trans (hb.mono HSZ.out)); clear hb hr
    go_wp2
    exact bodyPost_ret (v := .tuple #[.slice (some ⟨G, 0, none⟩) l.length c, .int .i64 3]) (by simp [results, Try.results43, go_sem]) rfl ⟨_, by rw [HV.out], by rw [HV.out]; first | exact HRR.out | (rw [HBE.out]; exact HRR.out), by first | exact HB.out | (rw [HBE.out]; exact HB.out)⟩
  have e1 : (S1 == 0) = false := by simp [h1]
  go_wp2_with fail
  refine (HOV.out w3 HA.out).mono ?_; rintro e_ w4 ⟨rfl, hb⟩
  replace HA := Lib.hid (HA.out.below hb); replace HB := Lib.hid (HB.out.trans (hb.mono HSZ.out)); replace HSZ := Lib.hid (Nat.le_trans HSZ.out hb.size); replace HP4 := Lib.hid (HP4.out.below hb); clear hb
  by_cases h2 : 0 < U
  · skip
    have e2 : decide (0 < U) = true := decide_eq_true h2
    have HH1 := Lib.hid h1; clear h1
    have HV := Lib.hid (HD.out.trans (if_pos (.inr h2)))
    go_wp2_with fail
    refine (clone_ln g ca l w4 HA.out hn).mono ?_; rintro e_ wR ⟨G, c, rfl, hr, hb⟩
    have HRR := Lib.hid (OwnK.mono hr HSZ.out : OwnKln wR B (.slice (some ⟨G, 0, none⟩) l.length c) l)
    replace HB := Lib.hid (HB.out.trans (hb.mono HSZ.out)); clear hb hr
    go_wp2
    exact bodyPost_ret (v := .tuple #[.slice (some ⟨G, 0, none⟩) l.length c, .int .i64 3]) (by simp [results, Try.results43, go_sem]) rfl ⟨_, by rw [HV.out], by rw [HV.out]; first | exact HRR.out | (rw [HBE.out]; exact HRR.out), by first | exact HB.out | (rw [HBE.out]; exact HB.out)⟩
  replace HD := Lib.hid (HD.out.trans (if_neg (fun h => h.elim h1 h2)))
  have e2 : decide (0 < U) = false := decide_eq_false h2
  clear h1 h2
  go_wp2_with fail
  refine (HC3.out w4 HA.out).mono ?_; rintro e_ w5 ⟨rfl, hb⟩
  replace HA := Lib.hid (HA.out.below hb); replace HB := Lib.hid (HB.out.trans (hb.mono HSZ.out)); replace HSZ := Lib.hid (Nat.le_trans HSZ.out hb.size); replace HP4 := Lib.hid (HP4.out.below hb); clear hb
  by_cases h3 : 0 < S3
  · skip
    have e3 : decide (0 < S3) = true := decide_eq_true h3
    have HV := Lib.hid (HD.out.trans (if_pos h3))
    go_wp2_with fail
    refine (clone_ln g ca l w5 HA.out hn).mono ?_; rintro e_ wR ⟨G, c, rfl, hr, hb⟩
    have HRR := Lib.hid (OwnK.mono hr HSZ.out : OwnKln wR B (.slice (some ⟨G, 0, none⟩) l.length c) l)
    replace HB := Lib.hid (HB.out.trans (hb.mono HSZ.out)); clear hb hr
    go_wp2
    exact bodyPost_ret (v := .tuple #[.slice (some ⟨G, 0, none⟩) l.length c, .int .i64 2]) (by simp [results, Try.results43, go_sem]) rfl ⟨_, by rw [HV.out], by rw [HV.out]; first | exact HRR.out | (rw [HBE.out]; exact HRR.out), by first | exact HB.out | (rw [HBE.out]; exact HB.out)⟩
  replace HD := Lib.hid (HD.out.trans (if_neg h3))
  have e3 : decide (0 < S3) = false := decide_eq_false h3
  clear h3
  go_wp2_with fail
  refine (HRF.out w5 HP4.out).mono ?_; rintro e_ w6 ⟨rfl, hb⟩
  replace HA := Lib.hid (HA.out.below hb); replace HB := Lib.hid (HB.out.trans (hb.mono HSZ.out)); replace HSZ := Lib.hid (Nat.le_trans HSZ.out hb.size); replace HP4 := Lib.hid (HP4.out.below hb); clear hb
  by_cases h4 : RF = 0
  · skip
    have e4 : (RF == 0) = true := by simp [h4]
    have HH4 := Lib.hid h4; clear h4
    have HV := Lib.hid (HD.out.trans (if_pos HH4.out))
    go_wp2_with fail
    refine (clone_ln g ca l w6 HA.out hn).mono ?_; rintro e_ wR ⟨G, c, rfl, hr, hb⟩
    have HRR := Lib.hid (OwnK.mono hr HSZ.out : OwnKln wR B (.slice (some ⟨G, 0, none⟩) l.length c) l)
    replace HB := Lib.hid (HB.out.trans (hb.mono HSZ.out)); clear hb hr
    go_wp2
    exact bodyPost_ret (v := .tuple #[.slice (some ⟨G, 0, none⟩) l.length c, .int .i64 4]) (by simp [results, Try.results43, go_sem]) rfl ⟨_, by rw [HV.out], by rw [HV.out]; first | exact HRR.out | (rw [HBE.out]; exact HRR.out), by first | exact HB.out | (rw [HBE.out]; exact HB.out)⟩
  replace HD := Lib.hid (HD.out.trans (if_neg h4))
  have e4 : (RF == 0) = false := by simp [h4]
  clear h4
  go_wp2_with fail
  refine (HPU.out w6 HA.out).mono ?_; rintro e_ wR ⟨v, rfl, hr, hb⟩
  have HRR := Lib.hid (OwnK.mono hr HSZ.out : OwnKln wR B v P.1)
  replace HB := Lib.hid (HB.out.trans (hb.mono HSZ.out)); clear hb hr
  go_wp2
  exact bodyPost_ret (v := .tuple #[v, .int .i64 P.2]) (by simp [results, Try.results43, go_sem]) rfl ⟨_, by rw [HD.out], by rw [HD.out]; first | exact HRR.out | (rw [HBE.out]; exact HRR.out), by first | exact HB.out | (rw [HBE.out]; exact HB.out)⟩
set_option maxRecDepth 100000 in
set_option maxHeartbeats 2000000 in
theorem refo_spec (o u e : Int) (A4 : Option Addr) (k4 : Nat) (ps : List Int) (t : Int) (g ca : Nat) (l : List Ln) (w : World) (hA : InK 4 lnC w (some ⟨g, 0, none⟩) l) (hc : l.length ≤ ca) (hn : l.length ≤ 1048576) (hP : IntsIn w A4 ps) (hm : ps.length ≤ 1048576) :
    Calls Try.prog 42 #[.slice (some ⟨g, 0, none⟩) l.length ca, .int .i64 o, .int .i64 u, .int .i64 e, .slice A4 ps.length k4, .int .i64 t] w fun e_ w' => ∃ v, e_ = .returned (.tuple #[v, .int .i64 (refundR l o u e ps t).2]) ∧ OwnKln w' w.heap.size v (refundR l o u e ps t).1 ∧ Below w.heap.size w w' := by
  have HD := Lib.hid (show refundR l o u e ps t = (if (linesB l && (percB ps && (inB o 1 9999 && inB t 0 100000))) = true then (if sumT l o 1 = 0 ∨ 0 < owedB l o then (l, 3) else if 0 < sumT l o 3 then (l, 2) else if refB (sumT l o 1) u e ps = 0 then (l, 4) else pushR l (⟨o, 3, refB (sumT l o 1) u e ps, t⟩ : Ln)) else (l, 1)) from rfl)
  have HPU := Lib.hid (fun W (h : InK 4 lnC W (some ⟨g, 0, none⟩) l) => push_spec o 3 (refB (sumT l o 1) u e ps) t g ca l W h hn)
  have HLN := Lib.hid (fun W (h : InK 4 lnC W (some ⟨g, 0, none⟩) l) => lines_spec (some ⟨g, 0, none⟩) ca l W h hc hn)
  have HSM := Lib.hid (fun W (h : InK 4 lnC W (some ⟨g, 0, none⟩) l) => sum_spec o 1 (some ⟨g, 0, none⟩) ca l W h hn)
  have HPC := Lib.hid (fun W (h : IntsIn W A4 ps) => perc_spec A4 k4 ps W h hm)
  have HRF := Lib.hid (fun W (h : IntsIn W A4 ps) => refd_spec (sumT l o 1) u e A4 k4 ps W h hm)
  have HOW := Lib.hid (fun (_ : linesB l = true) W (h : InK 4 lnC W (some ⟨g, 0, none⟩) l) => owed_spec o (some ⟨g, 0, none⟩) ca l W h hc hn)
  have HS3 := Lib.hid (fun (_ : linesB l = true) W (h : InK 4 lnC W (some ⟨g, 0, none⟩) l) => cnt_spec o 3 (some ⟨g, 0, none⟩) ca l W h hn)
  have HN3 := Lib.hid (fun (hv : linesB l = true) => cnt_sum_all (o := o) (k := 3) (linesB_valid hv).1 (linesB_valid hv).2)
  have HVL := Lib.hid (fun (hv : linesB l = true) => sum_nonneg (o := o) (k := 1) (linesB_valid hv).1 (linesB_valid hv).2)
  generalize refundR l o u e ps t = R at *
  generalize pushR l (⟨o, 3, refB (sumT l o 1) u e ps, t⟩ : Ln) = P at *
  generalize refB (sumT l o 1) u e ps = RF at *
  generalize sumT l o 1 = S1 at *
  generalize sumT l o 3 = S3 at *
  generalize cntT l o 3 = N3 at *
  generalize linesB l = VL at *
  generalize percB ps = PB at *
  generalize owedB l o = U at *
  have HA := Lib.hid hA
  have HP4 := Lib.hid hP
  obtain ⟨B, hB⟩ : ∃ B, B = w.heap.size := ⟨_, rfl⟩
  have HB := Lib.hid (show Below B w w by rw [hB]; exact Below.refl _ _); have HSZ := Lib.hid (show B ≤ w.heap.size by rw [hB]; exact Nat.le_refl _)
  have HBE := Lib.hid hB.symm
  clear hA hP hB
  go_enter Try.func42, Try.ntmps42
  go_wp2_with fail
  refine (HSM.out w HA.out).mono ?_; rintro e_ w1 ⟨rfl, hb⟩
  replace HA := Lib.hid (HA.out.below hb); replace HB := Lib.hid (HB.out.trans (hb.mono HSZ.out)); replace HSZ := Lib.hid (Nat.le_trans HSZ.out hb.size); replace HP4 := Lib.hid (HP4.out.below hb); clear hb
  go_wp2_with fail
  refine (HLN.out w1 HA.out).mono ?_; rintro e_ w2 ⟨rfl, hb⟩
  replace HA := Lib.hid (HA.out.below hb); replace HB := Lib.hid (HB.out.trans (hb.mono HSZ.out)); replace HSZ := Lib.hid (Nat.le_trans HSZ.out hb.size); replace HP4 := Lib.hid (HP4.out.below hb); clear hb
  cases q0 : VL with
  | false =>
    have HV := Lib.hid (HD.out.trans (show _ = (l, 1) by first | (rw [q0]; done) | (rw [q0]; rfl)))
    go_wp2_with fail
    refine (copy_l11 g ca l w2 HA.out hn).mono ?_; rintro e_ wR ⟨G, c, rfl, hr, hb⟩
    have HRR := Lib.hid (OwnK.mono hr HSZ.out : OwnKln wR B (.slice (some ⟨G, 0, none⟩) l.length c) l)
    replace HB := Lib.hid (HB.out.trans (hb.mono HSZ.out)); clear hb hr
    go_wp2
    exact bodyPost_ret (v := .tuple #[.slice (some ⟨G, 0, none⟩) l.length c, .int .i64 1]) (by simp [results, Try.results42, go_sem]) rfl ⟨_, by rw [HV.out], by rw [HV.out]; first | exact HRR.out | (rw [HBE.out]; exact HRR.out), by first | exact HB.out | (rw [HBE.out]; exact HB.out)⟩
  | true =>
  go_wp2_with fail
  refine (HPC.out w2 HP4.out).mono ?_; rintro e_ w3 ⟨rfl, hb⟩
  replace HA := Lib.hid (HA.out.below hb); replace HB := Lib.hid (HB.out.trans (hb.mono HSZ.out)); replace HSZ := Lib.hid (Nat.le_trans HSZ.out hb.size); replace HP4 := Lib.hid (HP4.out.below hb); clear hb
  cases q1 : PB with
  | false =>
    have HV := Lib.hid (HD.out.trans (show _ = (l, 1) by first | (rw [q0, q1]; done) | (rw [q0, q1]; rfl)))
    go_wp2_with fail
    refine (copy_l11 g ca l w3 HA.out hn).mono ?_; rintro e_ wR ⟨G, c, rfl, hr, hb⟩
    have HRR := Lib.hid (OwnK.mono hr HSZ.out : OwnKln wR B (.slice (some ⟨G, 0, none⟩) l.length c) l)
    replace HB := Lib.hid (HB.out.trans (hb.mono HSZ.out)); clear hb hr
    go_wp2
    exact bodyPost_ret (v := .tuple #[.slice (some ⟨G, 0, none⟩) l.length c, .int .i64 1]) (by simp [results, Try.results42, go_sem]) rfl ⟨_, by rw [HV.out], by rw [HV.out]; first | exact HRR.out | (rw [HBE.out]; exact HRR.out), by first | exact HB.out | (rw [HBE.out]; exact HB.out)⟩
  | true =>
  go_wp2_with fail
  refine (in_any o 1 9999 w3).mono ?_; rintro e_ w4 ⟨rfl, hu⟩
  subst hu
  cases q2 : inB o 1 9999 with
  | false =>
    have HV := Lib.hid (HD.out.trans (show _ = (l, 1) by first | (rw [q0, q1, q2]; done) | (rw [q0, q1, q2]; rfl)))
    go_wp2_with fail
    refine (copy_l11 g ca l w3 HA.out hn).mono ?_; rintro e_ wR ⟨G, c, rfl, hr, hb⟩
    have HRR := Lib.hid (OwnK.mono hr HSZ.out : OwnKln wR B (.slice (some ⟨G, 0, none⟩) l.length c) l)
    replace HB := Lib.hid (HB.out.trans (hb.mono HSZ.out)); clear hb hr
    go_wp2
    exact bodyPost_ret (v := .tuple #[.slice (some ⟨G, 0, none⟩) l.length c, .int .i64 1]) (by simp [results, Try.results42, go_sem]) rfl ⟨_, by rw [HV.out], by rw [HV.out]; first | exact HRR.out | (rw [HBE.out]; exact HRR.out), by first | exact HB.out | (rw [HBE.out]; exact HB.out)⟩
  | true =>
  go_wp2_with fail
  refine (in_any t 0 100000 w3).mono ?_; rintro e_ w5 ⟨rfl, hu⟩
  subst hu
  cases q3 : inB t 0 100000 with
  | false =>
    have HV := Lib.hid (HD.out.trans (show _ = (l, 1) by first | (rw [q0, q1, q2, q3]; done) | (rw [q0, q1, q2, q3]; rfl)))
    go_wp2_with fail
    refine (copy_l11 g ca l w3 HA.out hn).mono ?_; rintro e_ wR ⟨G, c, rfl, hr, hb⟩
    have HRR := Lib.hid (OwnK.mono hr HSZ.out : OwnKln wR B (.slice (some ⟨G, 0, none⟩) l.length c) l)
    replace HB := Lib.hid (HB.out.trans (hb.mono HSZ.out)); clear hb hr
    go_wp2
    exact bodyPost_ret (v := .tuple #[.slice (some ⟨G, 0, none⟩) l.length c, .int .i64 1]) (by simp [results, Try.results42, go_sem]) rfl ⟨_, by rw [HV.out], by rw [HV.out]; first | exact HRR.out | (rw [HBE.out]; exact HRR.out), by first | exact HB.out | (rw [HBE.out]; exact HB.out)⟩
  | true =>
  replace HD := Lib.hid (HD.out.trans (show _ = (if S1 = 0 ∨ 0 < U then (l, 3) else if 0 < S3 then (l, 2) else if RF = 0 then (l, 4) else P) by rw [q0, q1, q2, q3]; rfl))
  have HS0 := Lib.hid (HVL.out q0)
  have HOV := Lib.hid (HOW.out q0); have HC3 := Lib.hid (HS3.out q0)
  have HNN := Lib.hid (HN3.out q0); clear HN3
  clear HOW HS3 HVL HLN HPC q0 q1 q2 q3
  by_cases h1 : S1 = 0
  · skip
    have e1 : (S1 == 0) = true := by simp [h1]
    have HH1 := Lib.hid h1; clear h1
    have HV := Lib.hid (HD.out.trans (if_pos (.inl HH1.out)))
    go_wp2_with fail
    refine (copy_l11 g ca l w3 HA.out hn).mono ?_; rintro e_ wR ⟨G, c, rfl, hr, hb⟩
    have HRR := Lib.hid (OwnK.mono hr HSZ.out : OwnKln wR B (.slice (some ⟨G, 0, none⟩) l.length c) l)
    replace HB := Lib.hid (HB.out.trans (hb.mono HSZ.out)); clear hb hr
    go_wp2
    exact bodyPost_ret (v := .tuple #[.slice (some ⟨G, 0, none⟩) l.length c, .int .i64 3]) (by simp [results, Try.results42, go_sem]) rfl ⟨_, by rw [HV.out], by rw [HV.out]; first | exact HRR.out | (rw [HBE.out]; exact HRR.out), by first | exact HB.out | (rw [HBE.out]; exact HB.out)⟩
  have e1 : (S1 == 0) = false := by simp [h1]
  go_wp2_with fail
  refine (HOV.out w3 HA.out).mono ?_; rintro e_ w6 ⟨rfl, hb⟩
  replace HA := Lib.hid (HA.out.below hb); replace HB := Lib.hid (HB.out.trans (hb.mono HSZ.out)); replace HSZ := Lib.hid (Nat.le_trans HSZ.out hb.size); replace HP4 := Lib.hid (HP4.out.below hb); clear hb
  by_cases h2 : 0 < U
  · skip
    have e2 : decide (0 < U) = true := decide_eq_true h2
    have HH1 := Lib.hid h1; clear h1
    have HV := Lib.hid (HD.out.trans (if_pos (.inr h2)))
    go_wp2_with fail
    refine (copy_l11 g ca l w6 HA.out hn).mono ?_; rintro e_ wR ⟨G, c, rfl, hr, hb⟩
    have HRR := Lib.hid (OwnK.mono hr HSZ.out : OwnKln wR B (.slice (some ⟨G, 0, none⟩) l.length c) l)
    replace HB := Lib.hid (HB.out.trans (hb.mono HSZ.out)); clear hb hr
    go_wp2
    exact bodyPost_ret (v := .tuple #[.slice (some ⟨G, 0, none⟩) l.length c, .int .i64 3]) (by simp [results, Try.results42, go_sem]) rfl ⟨_, by rw [HV.out], by rw [HV.out]; first | exact HRR.out | (rw [HBE.out]; exact HRR.out), by first | exact HB.out | (rw [HBE.out]; exact HB.out)⟩
  replace HD := Lib.hid (HD.out.trans (if_neg (fun h => h.elim h1 h2)))
  have e2 : decide (0 < U) = false := decide_eq_false h2
  clear h1 h2
  go_wp2_with fail
  refine (HC3.out w6 HA.out).mono ?_; rintro e_ w7 ⟨rfl, hb⟩
  replace HA := Lib.hid (HA.out.below hb); replace HB := Lib.hid (HB.out.trans (hb.mono HSZ.out)); replace HSZ := Lib.hid (Nat.le_trans HSZ.out hb.size); replace HP4 := Lib.hid (HP4.out.below hb); clear hb
  by_cases h3 : 0 < S3
  · skip
    have e3 : decide (0 < (N3 : Int)) = true := decide_eq_true (by have := HNN.out.2 h3; omega)
    have e3n : 0 < N3 := HNN.out.2 h3
    have HV := Lib.hid (HD.out.trans (if_pos h3))
    go_wp2_with fail
    refine (copy_l11 g ca l w7 HA.out hn).mono ?_; rintro e_ wR ⟨G, c, rfl, hr, hb⟩
    have HRR := Lib.hid (OwnK.mono hr HSZ.out : OwnKln wR B (.slice (some ⟨G, 0, none⟩) l.length c) l)
    replace HB := Lib.hid (HB.out.trans (hb.mono HSZ.out)); clear hb hr
    go_wp2
    exact bodyPost_ret (v := .tuple #[.slice (some ⟨G, 0, none⟩) l.length c, .int .i64 2]) (by simp [results, Try.results42, go_sem]) rfl ⟨_, by rw [HV.out], by rw [HV.out]; first | exact HRR.out | (rw [HBE.out]; exact HRR.out), by first | exact HB.out | (rw [HBE.out]; exact HB.out)⟩
  replace HD := Lib.hid (HD.out.trans (if_neg h3))
  have e3 : decide (0 < (N3 : Int)) = false := decide_eq_false (fun h => h3 (HNN.out.1 (by omega)))
  have e3n : ¬ 0 < N3 := fun h => h3 (HNN.out.1 h)
  obtain rfl : N3 = 0 := by omega
  clear e3 e3n
  clear h3
  go_wp2_with fail
  refine (HRF.out w7 HP4.out).mono ?_; rintro e_ w8 ⟨rfl, hb⟩
  replace HA := Lib.hid (HA.out.below hb); replace HB := Lib.hid (HB.out.trans (hb.mono HSZ.out)); replace HSZ := Lib.hid (Nat.le_trans HSZ.out hb.size); replace HP4 := Lib.hid (HP4.out.below hb); clear hb
  by_cases h4 : RF = 0
  · skip
    have e4 : (RF == 0) = true := by simp [h4]
    have HH4 := Lib.hid h4; clear h4
    have HV := Lib.hid (HD.out.trans (if_pos HH4.out))
    go_wp2_with fail
    refine (copy_l11 g ca l w8 HA.out hn).mono ?_; rintro e_ wR ⟨G, c, rfl, hr, hb⟩
    have HRR := Lib.hid (OwnK.mono hr HSZ.out : OwnKln wR B (.slice (some ⟨G, 0, none⟩) l.length c) l)
    replace HB := Lib.hid (HB.out.trans (hb.mono HSZ.out)); clear hb hr
    go_wp2
    exact bodyPost_ret (v := .tuple #[.slice (some ⟨G, 0, none⟩) l.length c, .int .i64 4]) (by simp [results, Try.results42, go_sem]) rfl ⟨_, by rw [HV.out], by rw [HV.out]; first | exact HRR.out | (rw [HBE.out]; exact HRR.out), by first | exact HB.out | (rw [HBE.out]; exact HB.out)⟩
  replace HD := Lib.hid (HD.out.trans (if_neg h4))
  have e4 : (RF == 0) = false := by simp [h4]
  clear h4
  go_wp2_with fail
  refine (HRF.out w8 HP4.out).mono ?_; rintro e_ w9 ⟨rfl, hb⟩
  replace HA := Lib.hid (HA.out.below hb); replace HB := Lib.hid (HB.out.trans (hb.mono HSZ.out)); replace HSZ := Lib.hid (Nat.le_trans HSZ.out hb.size); replace HP4 := Lib.hid (HP4.out.below hb); clear hb
  go_wp2_with fail
  refine (HPU.out w9 HA.out).mono ?_; rintro e_ wR ⟨v, rfl, hr, hb⟩
  have HRR := Lib.hid (OwnK.mono hr HSZ.out : OwnKln wR B v P.1)
  replace HB := Lib.hid (HB.out.trans (hb.mono HSZ.out)); clear hb hr
  go_wp2
  exact bodyPost_ret (v := .tuple #[v, .int .i64 P.2]) (by simp [results, Try.results42, go_sem]) rfl ⟨_, by rw [HD.out], by rw [HD.out]; first | exact HRR.out | (rw [HBE.out]; exact HRR.out), by first | exact HB.out | (rw [HBE.out]; exact HB.out)⟩
end Go.Proofs.Ytadcmngooobeiaa
