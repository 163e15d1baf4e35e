/- OwedFor, both texts. Written by hand. -/
import Derived.Test.YtadcmngooobeiaaLnAI
import Derived.Test.YtadcmngooobeiaaLnAS
namespace Go.Proofs.Ytadcmngooobeiaa
open Go.RowKit
set_option maxRecDepth 100000 in
set_option maxHeartbeats 1000000 in
theorem owedU (o : Int) (A : Option Addr) (ca : Nat) (l : List Ln) (w : World) (hA : InK 4 lnC w A l) (hv : linesB l = true) :
    Calls Try.prog 68 #[.slice A l.length ca, .int .i64 o] w fun e w' => e = .returned (.int .i64 (sumT l o 1 - sumT l o 2)) ∧ Below w.heap.size w w' := by
  obtain ⟨hn, hl⟩ := linesB_valid hv
  have HS1 := Lib.hid (sum_nonneg (o := o) (k := 1) hn hl); have HS2 := Lib.hid (sum_nonneg (o := o) (k := 2) hn hl)
  have H1 := Lib.hid (fun W (h : InK 4 lnC W A l) => sum_impl o 1 A ca l W h (by omega))
  have H2 := Lib.hid (fun W (h : InK 4 lnC W A l) => sum_impl o 2 A ca l W h (by omega))
  have HA := Lib.hid hA; clear hA hl hv
  generalize sumT l o 1 = S1 at *
  generalize sumT l o 2 = S2 at *
  have HW := Lib.hid (wrap_id (x := S1 - S2) (by have := HS1.out; have := HS2.out; omega))
  go_enter Try.func68, Try.ntmps68
  go_wp2_with fail
  refine (H1.out w HA.out).mono ?_; rintro e w1 ⟨rfl, hb⟩
  replace HA := Lib.hid (HA.out.below hb)
  have HB := Lib.hid hb; clear hb
  go_wp2_with fail
  refine (H2.out w1 HA.out).mono ?_; rintro e w2 ⟨rfl, hb⟩
  replace HB := Lib.hid (HB.out.trans (hb.mono HB.out.size)); clear hb
  go_wp2
  go_ret
  exact ⟨by first | rfl | exact ret_int HW.out, HB.out⟩
set_option maxRecDepth 100000 in
set_option maxHeartbeats 1000000 in
theorem owed_impl (o : Int) (A : Option Addr) (ca : Nat) (l : List Ln) (w : World) (hA : InK 4 lnC w A l) (hc : l.length ≤ ca) (hn : l.length ≤ 1048576) :
    Calls Try.prog 35 #[.slice A l.length ca, .int .i64 o] w fun e w' => e = .returned (.int .i64 (owedB l o)) ∧ Below w.heap.size w w' := by
  have HL := Lib.hid (lines_impl A ca l w hA hc hn)
  cases q : linesB l with
  | false =>
    rw [q] at HL
    have HV := Lib.hid (show owedB l o = 0 by unfold owedB; rw [q]; rfl)
    generalize owedB l o = V at *
    clear q hA
    go_enter Try.func35, Try.ntmps35
    go_wp2_with fail
    refine HL.out.mono ?_; rintro e w1 ⟨rfl, hb⟩
    have HB := Lib.hid hb; clear hb
    go_wp2
    go_ret
    exact ⟨ret_int HV.out.symm, HB.out⟩
  | true =>
    rw [q] at HL
    have HV := Lib.hid (show owedB l o = sumT l o 1 - sumT l o 2 by unfold owedB; rw [q]; rfl)
    generalize owedB l o = V at *
    have HA := Lib.hid hA; clear hA
    have HU := Lib.hid (fun W (h : InK 4 lnC W A l) => owedU o A ca l W h q)
    clear q
    generalize sumT l o 1 - sumT l o 2 = U at *
    go_enter Try.func35, Try.ntmps35
    go_wp2_with fail
    refine HL.out.mono ?_; rintro e w1 ⟨rfl, hb⟩
    replace HA := Lib.hid (HA.out.below hb)
    have HB := Lib.hid hb; clear hb
    go_wp2_with fail
    refine (HU.out w1 HA.out).mono ?_; rintro e w2 ⟨rfl, hb⟩
    replace HB := Lib.hid (HB.out.trans (hb.mono HB.out.size)); clear hb
    go_wp2
    go_ret
    exact ⟨ret_int HV.out.symm, HB.out⟩
set_option maxRecDepth 100000 in
set_option maxHeartbeats 1000000 in
theorem owed_spec (o : Int) (A : Option Addr) (ca : Nat) (l : List Ln) (w : World) (hA : InK 4 lnC w A l) (hc : l.length ≤ ca) (hn : l.length ≤ 1048576) :
    Calls Try.prog 34 #[.slice A l.length ca, .int .i64 o] w fun e w' => e = .returned (.int .i64 (owedB l o)) ∧ Below w.heap.size w w' := by
  have HL := Lib.hid (lines_spec A ca l w hA hc hn)
  cases q : linesB l with
  | false =>
    rw [q] at HL
    have HV := Lib.hid (show owedB l o = 0 by unfold owedB; rw [q]; rfl)
    generalize owedB l o = V at *
    clear q hA
    go_enter Try.func34, Try.ntmps34
    go_wp2_with fail
    refine HL.out.mono ?_; rintro e w1 ⟨rfl, hb⟩
    have HB := Lib.hid hb; clear hb
    go_wp2
    go_ret
    exact ⟨ret_int HV.out.symm, HB.out⟩
  | true =>
    rw [q] at HL
    have HV := Lib.hid (show owedB l o = sumT l o 1 - sumT l o 2 by unfold owedB; rw [q]; rfl)
    generalize owedB l o = V at *
    have HA := Lib.hid hA; clear hA
    obtain ⟨hn2, hl⟩ := linesB_valid q
    clear q
    have HS1 := Lib.hid (sum_nonneg (o := o) (k := 1) hn2 hl); have HS2 := Lib.hid (sum_nonneg (o := o) (k := 2) hn2 hl)
    have H1 := Lib.hid (fun W (h : InK 4 lnC W A l) => sum_spec o 1 A ca l W h hn)
    have H2 := Lib.hid (fun W (h : InK 4 lnC W A l) => sum_spec o 2 A ca l W h hn)
    clear hl
    generalize sumT l o 1 = S1 at *
    generalize sumT l o 2 = S2 at *
    have HW := Lib.hid (wrap_id (x := S1 - S2) (by have := HS1.out; have := HS2.out; omega))
    go_enter Try.func34, Try.ntmps34
    go_wp2_with fail
    refine HL.out.mono ?_; rintro e w0 ⟨rfl, hb⟩
    replace HA := Lib.hid (HA.out.below hb)
    have HB := Lib.hid hb; clear hb
    go_wp2_with fail
    refine (H1.out w0 HA.out).mono ?_; rintro e w1 ⟨rfl, hb⟩
    replace HA := Lib.hid (HA.out.below hb)
    replace HB := Lib.hid (HB.out.trans (hb.mono HB.out.size)); clear hb
    go_wp2_with fail
    refine (H2.out w1 HA.out).mono ?_; rintro e w2 ⟨rfl, hb⟩
    replace HB := Lib.hid (HB.out.trans (hb.mono HB.out.size)); clear hb
    go_wp2
    go_ret
    exact ⟨by first | exact ret_int HV.out.symm | exact ret_int (HW.out.trans HV.out.symm), HB.out⟩
end Go.Proofs.Ytadcmngooobeiaa
