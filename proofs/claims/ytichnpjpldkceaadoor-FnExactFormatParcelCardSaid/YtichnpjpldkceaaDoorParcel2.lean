/- Contracts of the two texts of IsParcel, and of the two of ChargeWeight. -/
import Derived.Test.YtichnpjpldkceaaDoorParcel
import Derived.Test.YtichnpjpldkceaaDoorGirth
namespace Go.Proofs.YtichnpjpldkceaaDoor
open Go.RowKit
def parB (a b : Int) (t f : ByteArray) (wt : Int) (zs : List Int) (v : Int) : Bool :=
  labB a b t.data.toList && (plcB f.data.toList && (!(f.toList == t.toList) && (inB wt 1 30000 && (thrB zs && (decide (girth zs ≤ 3600) && inB v 0 500000)))))
set_option maxRecDepth 100000 in
set_option maxHeartbeats 4000000 in
theorem is_parcel (a b : Int) (t f : ByteArray) (wt : Int) (A : Option Addr) (cap : Nat) (zs : List Int) (v : Int) (w : World) (ht : t.size ≤ maxLen) (hf : f.size ≤ maxLen) (hA : IntsIn w A zs) (hn : zs.length ≤ 1048576) :
    Calls Tryd.prog 31 #[.agg #[.int .i64 a, .int .i64 b, .string t, .string f, .int .i64 wt, .slice A zs.length cap, .int .i64 v]] w fun e w' => e = .returned (.bool (parB a b t f wt zs v)) ∧ Below w.heap.size w w' := by
  have hB0 := BoxP.new (T := 31) (a := a) (b := b) (t := t) (f := f) (wt := wt) (S := .slice A zs.length cap) (v := v) w
  have hb0 := (Below.refl w.heap.size w).alloc (Nat.le_refl _) (.cells #[.int .i64 a, .int .i64 b, .string t, .string f, .int .i64 wt, .slice A zs.length cap, .int .i64 v] 31)
  have H0 := Lib.hid (And.intro hB0 (And.intro hb0 (hA.below hb0))); clear hB0 hb0 hA
  have HL := Lib.hid (fun W => label_impl a b t W ht)
  have HF := Lib.hid (fun W => place_impl f W hf)
  have H3 := Lib.hid (fun W (h : IntsIn W A zs) => three_impl A cap zs W h (by omega))
  have HG := Lib.hid (fun W (h : IntsIn W A zs) => gir_impl A cap zs W h (by omega))
  have HQ := Lib.hid (show parB a b t f wt zs v = (labB a b t.data.toList && (plcB f.data.toList && (!(f.toList == t.toList) && (inB wt 1 30000 && (thrB zs && (decide (girth zs ≤ 3600) && inB v 0 500000)))))) from rfl)
  generalize parB a b t f wt zs v = R at *
  clear ht hf
  cases h1 : labB a b t.data.toList with
  | false =>
    rw [h1] at HL HQ; clear h1
    have HR := Lib.hid (show R = false from HQ.out)
    go_enter Tryd.func31, Tryd.ntmps31
    go_wp2_with fail
    generalize hB : w.heap.size = B at *
    have HBE := Lib.hid hB; clear hB
    generalize w.alloc (.cells #[.int .i64 a, .int .i64 b, .string t, .string f, .int .i64 wt, .slice A zs.length cap, .int .i64 v] 31) = W at *
    refine (HL.out W).mono ?_; rintro e w1 ⟨rfl, hb1⟩
    have Q1 := Lib.hid (And.intro (H0.out.1.below hb1) (And.intro (H0.out.2.1.trans (hb1.mono (Nat.le_of_lt H0.out.1.lt))) (H0.out.2.2.below hb1)))
    obtain ⟨c0, c1, c2, c3, c4, c5, c6⟩ := Q1.out.1.cells
    clear hb1
    go_wp2
    go_ret
    exact ⟨ret_bool (by first | (rw [HR.out]; done) | (rw [HR.out]; exact decide_eq_false (by omega)) | (rw [HR.out]; exact decide_eq_true (by omega))), by rw [HBE.out]; exact Q1.out.2.1⟩
  | true =>
  rw [h1] at HL HQ; clear h1
  cases h2 : plcB f.data.toList with
  | false =>
    rw [h2] at HF HQ; clear h2
    have HR := Lib.hid (show R = false from HQ.out)
    go_enter Tryd.func31, Tryd.ntmps31
    go_wp2_with fail
    generalize hB : w.heap.size = B at *
    have HBE := Lib.hid hB; clear hB
    generalize w.alloc (.cells #[.int .i64 a, .int .i64 b, .string t, .string f, .int .i64 wt, .slice A zs.length cap, .int .i64 v] 31) = W at *
    refine (HL.out W).mono ?_; rintro e w1 ⟨rfl, hb1⟩
    have Q1 := Lib.hid (And.intro (H0.out.1.below hb1) (And.intro (H0.out.2.1.trans (hb1.mono (Nat.le_of_lt H0.out.1.lt))) (H0.out.2.2.below hb1)))
    obtain ⟨c0, c1, c2, c3, c4, c5, c6⟩ := Q1.out.1.cells
    clear hb1
    go_wp2_with fail
    refine (HF.out w1).mono ?_; rintro e w2 ⟨rfl, rfl⟩
    go_wp2
    go_ret
    exact ⟨ret_bool (by first | (rw [HR.out]; done) | (rw [HR.out]; exact decide_eq_false (by omega)) | (rw [HR.out]; exact decide_eq_true (by omega))), by rw [HBE.out]; exact Q1.out.2.1⟩
  | true =>
  rw [h2] at HF HQ; clear h2
  by_cases h3 : f.toList = t.toList
  · have q3 : (f.toList == t.toList) = true := by simp [h3]
    have q3' : (f.toList != t.toList) = false := by simp [h3]
    rw [q3] at HQ; clear h3
    have HR := Lib.hid (show R = false from HQ.out)
    go_enter Tryd.func31, Tryd.ntmps31
    go_wp2_with fail
    generalize hB : w.heap.size = B at *
    have HBE := Lib.hid hB; clear hB
    generalize w.alloc (.cells #[.int .i64 a, .int .i64 b, .string t, .string f, .int .i64 wt, .slice A zs.length cap, .int .i64 v] 31) = W at *
    refine (HL.out W).mono ?_; rintro e w1 ⟨rfl, hb1⟩
    have Q1 := Lib.hid (And.intro (H0.out.1.below hb1) (And.intro (H0.out.2.1.trans (hb1.mono (Nat.le_of_lt H0.out.1.lt))) (H0.out.2.2.below hb1)))
    obtain ⟨c0, c1, c2, c3, c4, c5, c6⟩ := Q1.out.1.cells
    clear hb1
    go_wp2_with fail
    refine (HF.out w1).mono ?_; rintro e w2 ⟨rfl, rfl⟩
    go_wp2
    go_ret
    exact ⟨ret_bool (by first | (rw [HR.out]; done) | (rw [HR.out]; exact decide_eq_false (by omega)) | (rw [HR.out]; exact decide_eq_true (by omega))), by rw [HBE.out]; exact Q1.out.2.1⟩
  have q3 : (f.toList == t.toList) = false := by simpa using h3
  have q3' : (f.toList != t.toList) = true := by simpa using h3
  rw [q3] at HQ; clear h3
  by_cases h4 : 1 ≤ wt
  rotate_left
  · rw [show inB wt 1 30000 = false by rw [inB_not]; omega] at HQ
    have HR := Lib.hid (show R = false from HQ.out)
    go_enter Tryd.func31, Tryd.ntmps31
    go_wp2_with fail
    generalize hB : w.heap.size = B at *
    have HBE := Lib.hid hB; clear hB
    generalize w.alloc (.cells #[.int .i64 a, .int .i64 b, .string t, .string f, .int .i64 wt, .slice A zs.length cap, .int .i64 v] 31) = W at *
    refine (HL.out W).mono ?_; rintro e w1 ⟨rfl, hb1⟩
    have Q1 := Lib.hid (And.intro (H0.out.1.below hb1) (And.intro (H0.out.2.1.trans (hb1.mono (Nat.le_of_lt H0.out.1.lt))) (H0.out.2.2.below hb1)))
    obtain ⟨c0, c1, c2, c3, c4, c5, c6⟩ := Q1.out.1.cells
    clear hb1
    go_wp2_with fail
    refine (HF.out w1).mono ?_; rintro e w2 ⟨rfl, rfl⟩
    go_wp2
    go_ret
    exact ⟨ret_bool (by first | (rw [HR.out]; done) | (rw [HR.out]; exact decide_eq_false (by omega)) | (rw [HR.out]; exact decide_eq_true (by omega))), by rw [HBE.out]; exact Q1.out.2.1⟩
  by_cases h4' : wt ≤ 30000
  rotate_left
  · rw [show inB wt 1 30000 = false by rw [inB_not]; omega] at HQ
    have HR := Lib.hid (show R = false from HQ.out)
    go_enter Tryd.func31, Tryd.ntmps31
    go_wp2_with fail
    generalize hB : w.heap.size = B at *
    have HBE := Lib.hid hB; clear hB
    generalize w.alloc (.cells #[.int .i64 a, .int .i64 b, .string t, .string f, .int .i64 wt, .slice A zs.length cap, .int .i64 v] 31) = W at *
    refine (HL.out W).mono ?_; rintro e w1 ⟨rfl, hb1⟩
    have Q1 := Lib.hid (And.intro (H0.out.1.below hb1) (And.intro (H0.out.2.1.trans (hb1.mono (Nat.le_of_lt H0.out.1.lt))) (H0.out.2.2.below hb1)))
    obtain ⟨c0, c1, c2, c3, c4, c5, c6⟩ := Q1.out.1.cells
    clear hb1
    go_wp2_with fail
    refine (HF.out w1).mono ?_; rintro e w2 ⟨rfl, rfl⟩
    go_wp2
    go_ret
    exact ⟨ret_bool (by first | (rw [HR.out]; done) | (rw [HR.out]; exact decide_eq_false (by omega)) | (rw [HR.out]; exact decide_eq_true (by omega))), by rw [HBE.out]; exact Q1.out.2.1⟩
  rw [show inB wt 1 30000 = true by rw [inB_iff]; omega] at HQ
  cases h5 : thrB zs with
  | false =>
    rw [h5] at H3 HQ; clear h5
    have HR := Lib.hid (show R = false from HQ.out)
    go_enter Tryd.func31, Tryd.ntmps31
    go_wp2_with fail
    generalize hB : w.heap.size = B at *
    have HBE := Lib.hid hB; clear hB
    generalize w.alloc (.cells #[.int .i64 a, .int .i64 b, .string t, .string f, .int .i64 wt, .slice A zs.length cap, .int .i64 v] 31) = W at *
    refine (HL.out W).mono ?_; rintro e w1 ⟨rfl, hb1⟩
    have Q1 := Lib.hid (And.intro (H0.out.1.below hb1) (And.intro (H0.out.2.1.trans (hb1.mono (Nat.le_of_lt H0.out.1.lt))) (H0.out.2.2.below hb1)))
    obtain ⟨c0, c1, c2, c3, c4, c5, c6⟩ := Q1.out.1.cells
    clear hb1
    go_wp2_with fail
    refine (HF.out w1).mono ?_; rintro e w2 ⟨rfl, rfl⟩
    go_wp2_with fail
    refine (H3.out w1 Q1.out.2.2).mono ?_; rintro e w2 ⟨rfl, rfl⟩
    go_wp2
    go_ret
    exact ⟨ret_bool (by first | (rw [HR.out]; done) | (rw [HR.out]; exact decide_eq_false (by omega)) | (rw [HR.out]; exact decide_eq_true (by omega))), by rw [HBE.out]; exact Q1.out.2.1⟩
  | true =>
  rw [h5] at H3 HQ; clear h5
  generalize girth zs = G at *
  by_cases h6 : G ≤ 3600
  rotate_left
  · have q6 : decide (G ≤ 3600) = false := by simp; omega
    rw [q6] at HQ
    have HR := Lib.hid (show R = false from HQ.out)
    go_enter Tryd.func31, Tryd.ntmps31
    go_wp2_with fail
    generalize hB : w.heap.size = B at *
    have HBE := Lib.hid hB; clear hB
    generalize w.alloc (.cells #[.int .i64 a, .int .i64 b, .string t, .string f, .int .i64 wt, .slice A zs.length cap, .int .i64 v] 31) = W at *
    refine (HL.out W).mono ?_; rintro e w1 ⟨rfl, hb1⟩
    have Q1 := Lib.hid (And.intro (H0.out.1.below hb1) (And.intro (H0.out.2.1.trans (hb1.mono (Nat.le_of_lt H0.out.1.lt))) (H0.out.2.2.below hb1)))
    obtain ⟨c0, c1, c2, c3, c4, c5, c6⟩ := Q1.out.1.cells
    clear hb1
    go_wp2_with fail
    refine (HF.out w1).mono ?_; rintro e w2 ⟨rfl, rfl⟩
    go_wp2_with fail
    refine (H3.out w1 Q1.out.2.2).mono ?_; rintro e w2 ⟨rfl, rfl⟩
    go_wp2_with fail
    refine (HG.out w1 Q1.out.2.2).mono ?_; rintro e w2 ⟨rfl, hb2⟩
    have Q2 := Lib.hid (And.intro (Q1.out.1.below hb2) (Q1.out.2.1.trans (hb2.mono (by have h1 := Q1.out.1.lt; omega))))
    clear c0 c1 c2 c3 c4 c5 c6
    obtain ⟨c0, c1, c2, c3, c4, c5, c6⟩ := Q2.out.1.cells
    clear hb2
    go_wp2
    go_ret
    exact ⟨ret_bool (by first | (rw [HR.out]; done) | (rw [HR.out]; exact decide_eq_false (by omega)) | (rw [HR.out]; exact decide_eq_true (by omega))), by rw [HBE.out]; exact Q2.out.2⟩
  have q6 : decide (G ≤ 3600) = true := by simp; omega
  rw [q6] at HQ
  by_cases h7 : 0 ≤ v
  rotate_left
  · rw [show inB v 0 500000 = false by rw [inB_not]; omega] at HQ
    have HR := Lib.hid (show R = false from HQ.out)
    go_enter Tryd.func31, Tryd.ntmps31
    go_wp2_with fail
    generalize hB : w.heap.size = B at *
    have HBE := Lib.hid hB; clear hB
    generalize w.alloc (.cells #[.int .i64 a, .int .i64 b, .string t, .string f, .int .i64 wt, .slice A zs.length cap, .int .i64 v] 31) = W at *
    refine (HL.out W).mono ?_; rintro e w1 ⟨rfl, hb1⟩
    have Q1 := Lib.hid (And.intro (H0.out.1.below hb1) (And.intro (H0.out.2.1.trans (hb1.mono (Nat.le_of_lt H0.out.1.lt))) (H0.out.2.2.below hb1)))
    obtain ⟨c0, c1, c2, c3, c4, c5, c6⟩ := Q1.out.1.cells
    clear hb1
    go_wp2_with fail
    refine (HF.out w1).mono ?_; rintro e w2 ⟨rfl, rfl⟩
    go_wp2_with fail
    refine (H3.out w1 Q1.out.2.2).mono ?_; rintro e w2 ⟨rfl, rfl⟩
    go_wp2_with fail
    refine (HG.out w1 Q1.out.2.2).mono ?_; rintro e w2 ⟨rfl, hb2⟩
    have Q2 := Lib.hid (And.intro (Q1.out.1.below hb2) (Q1.out.2.1.trans (hb2.mono (by have h1 := Q1.out.1.lt; omega))))
    clear c0 c1 c2 c3 c4 c5 c6
    obtain ⟨c0, c1, c2, c3, c4, c5, c6⟩ := Q2.out.1.cells
    clear hb2
    go_wp2
    go_ret
    exact ⟨ret_bool (by first | (rw [HR.out]; done) | (rw [HR.out]; exact decide_eq_false (by omega)) | (rw [HR.out]; exact decide_eq_true (by omega))), by rw [HBE.out]; exact Q2.out.2⟩
  by_cases h7' : v ≤ 500000
  rotate_left
  · rw [show inB v 0 500000 = false by rw [inB_not]; omega] at HQ
    have HR := Lib.hid (show R = false from HQ.out)
    go_enter Tryd.func31, Tryd.ntmps31
    go_wp2_with fail
    generalize hB : w.heap.size = B at *
    have HBE := Lib.hid hB; clear hB
    generalize w.alloc (.cells #[.int .i64 a, .int .i64 b, .string t, .string f, .int .i64 wt, .slice A zs.length cap, .int .i64 v] 31) = W at *
    refine (HL.out W).mono ?_; rintro e w1 ⟨rfl, hb1⟩
    have Q1 := Lib.hid (And.intro (H0.out.1.below hb1) (And.intro (H0.out.2.1.trans (hb1.mono (Nat.le_of_lt H0.out.1.lt))) (H0.out.2.2.below hb1)))
    obtain ⟨c0, c1, c2, c3, c4, c5, c6⟩ := Q1.out.1.cells
    clear hb1
    go_wp2_with fail
    refine (HF.out w1).mono ?_; rintro e w2 ⟨rfl, rfl⟩
    go_wp2_with fail
    refine (H3.out w1 Q1.out.2.2).mono ?_; rintro e w2 ⟨rfl, rfl⟩
    go_wp2_with fail
    refine (HG.out w1 Q1.out.2.2).mono ?_; rintro e w2 ⟨rfl, hb2⟩
    have Q2 := Lib.hid (And.intro (Q1.out.1.below hb2) (Q1.out.2.1.trans (hb2.mono (by have h1 := Q1.out.1.lt; omega))))
    clear c0 c1 c2 c3 c4 c5 c6
    obtain ⟨c0, c1, c2, c3, c4, c5, c6⟩ := Q2.out.1.cells
    clear hb2
    go_wp2
    go_ret
    exact ⟨ret_bool (by first | (rw [HR.out]; done) | (rw [HR.out]; exact decide_eq_false (by omega)) | (rw [HR.out]; exact decide_eq_true (by omega))), by rw [HBE.out]; exact Q2.out.2⟩
  rw [show inB v 0 500000 = true by rw [inB_iff]; omega] at HQ
  have HR := Lib.hid (show R = true from HQ.out)
  go_enter Tryd.func31, Tryd.ntmps31
  go_wp2_with fail
  generalize hB : w.heap.size = B at *
  have HBE := Lib.hid hB; clear hB
  generalize w.alloc (.cells #[.int .i64 a, .int .i64 b, .string t, .string f, .int .i64 wt, .slice A zs.length cap, .int .i64 v] 31) = W at *
  refine (HL.out W).mono ?_; rintro e w1 ⟨rfl, hb1⟩
  have Q1 := Lib.hid (And.intro (H0.out.1.below hb1) (And.intro (H0.out.2.1.trans (hb1.mono (Nat.le_of_lt H0.out.1.lt))) (H0.out.2.2.below hb1)))
  obtain ⟨c0, c1, c2, c3, c4, c5, c6⟩ := Q1.out.1.cells
  clear hb1
  go_wp2_with fail
  refine (HF.out w1).mono ?_; rintro e w2 ⟨rfl, rfl⟩
  go_wp2_with fail
  refine (H3.out w1 Q1.out.2.2).mono ?_; rintro e w2 ⟨rfl, rfl⟩
  go_wp2_with fail
  refine (HG.out w1 Q1.out.2.2).mono ?_; rintro e w2 ⟨rfl, hb2⟩
  have Q2 := Lib.hid (And.intro (Q1.out.1.below hb2) (Q1.out.2.1.trans (hb2.mono (by have h1 := Q1.out.1.lt; omega))))
  clear c0 c1 c2 c3 c4 c5 c6
  obtain ⟨c0, c1, c2, c3, c4, c5, c6⟩ := Q2.out.1.cells
  clear hb2
  go_wp2
  go_ret
  exact ⟨ret_bool (by first | (rw [HR.out]; done) | (rw [HR.out]; exact decide_eq_false (by omega)) | (rw [HR.out]; exact decide_eq_true (by omega))), by rw [HBE.out]; exact Q2.out.2⟩
set_option maxRecDepth 100000 in
set_option maxHeartbeats 4000000 in
theorem is_parcel_spec (a b : Int) (t f : ByteArray) (wt : Int) (A : Option Addr) (cap : Nat) (zs : List Int) (v : Int) (w : World) (ht : t.size ≤ maxLen) (hf : f.size ≤ maxLen) (hA : IntsIn w A zs) (hn : zs.length ≤ 1048576) :
    Calls Tryd.prog 26 #[.agg #[.int .i64 a, .int .i64 b, .string t, .string f, .int .i64 wt, .slice A zs.length cap, .int .i64 v]] w fun e w' => e = .returned (.bool (parB a b t f wt zs v)) ∧ Below w.heap.size w w' := by
  have hB0 := BoxP.new (T := 31) (a := a) (b := b) (t := t) (f := f) (wt := wt) (S := .slice A zs.length cap) (v := v) w
  have hb0 := (Below.refl w.heap.size w).alloc (Nat.le_refl _) (.cells #[.int .i64 a, .int .i64 b, .string t, .string f, .int .i64 wt, .slice A zs.length cap, .int .i64 v] 31)
  have H0 := Lib.hid (And.intro hB0 (And.intro hb0 (hA.below hb0))); clear hB0 hb0 hA
  have HL := Lib.hid (fun W => label_spec a b t W ht)
  have HF := Lib.hid (fun W => place_spec f W hf)
  have H3 := Lib.hid (fun W (h : IntsIn W A zs) => three_spec A cap zs W h (by omega))
  have HG := Lib.hid (fun W (h : IntsIn W A zs) => gir_spec A cap zs W h (by omega))
  have HQ := Lib.hid (show parB a b t f wt zs v = (labB a b t.data.toList && (plcB f.data.toList && (!(f.toList == t.toList) && (inB wt 1 30000 && (thrB zs && (decide (girth zs ≤ 3600) && inB v 0 500000)))))) from rfl)
  generalize parB a b t f wt zs v = R at *
  clear ht hf
  have HW := Lib.hid (fun W => in_any wt 1 30000 W)
  have HV := Lib.hid (fun W => in_any v 0 500000 W)
  cases h1 : labB a b t.data.toList with
  | false =>
    rw [h1] at HL HQ; clear h1
    have HR := Lib.hid (show R = false from HQ.out)
    go_enter Tryd.func26, Tryd.ntmps26
    go_wp2_with fail
    generalize hB : w.heap.size = B at *
    have HBE := Lib.hid hB; clear hB
    generalize w.alloc (.cells #[.int .i64 a, .int .i64 b, .string t, .string f, .int .i64 wt, .slice A zs.length cap, .int .i64 v] 31) = W at *
    refine (HL.out W).mono ?_; rintro e w1 ⟨rfl, hb1⟩
    have Q1 := Lib.hid (And.intro (H0.out.1.below hb1) (And.intro (H0.out.2.1.trans (hb1.mono (Nat.le_of_lt H0.out.1.lt))) (H0.out.2.2.below hb1)))
    obtain ⟨c0, c1, c2, c3, c4, c5, c6⟩ := Q1.out.1.cells
    clear hb1
    go_wp2
    go_ret
    exact ⟨ret_bool (by first | (rw [HR.out]; done) | (rw [HR.out]; exact decide_eq_false (by omega)) | (rw [HR.out]; exact decide_eq_true (by omega))), by rw [HBE.out]; exact Q1.out.2.1⟩
  | true =>
  rw [h1] at HL HQ; clear h1
  cases h2 : plcB f.data.toList with
  | false =>
    rw [h2] at HF HQ; clear h2
    have HR := Lib.hid (show R = false from HQ.out)
    go_enter Tryd.func26, Tryd.ntmps26
    go_wp2_with fail
    generalize hB : w.heap.size = B at *
    have HBE := Lib.hid hB; clear hB
    generalize w.alloc (.cells #[.int .i64 a, .int .i64 b, .string t, .string f, .int .i64 wt, .slice A zs.length cap, .int .i64 v] 31) = W at *
    refine (HL.out W).mono ?_; rintro e w1 ⟨rfl, hb1⟩
    have Q1 := Lib.hid (And.intro (H0.out.1.below hb1) (And.intro (H0.out.2.1.trans (hb1.mono (Nat.le_of_lt H0.out.1.lt))) (H0.out.2.2.below hb1)))
    obtain ⟨c0, c1, c2, c3, c4, c5, c6⟩ := Q1.out.1.cells
    clear hb1
    go_wp2_with fail
    refine (HF.out w1).mono ?_; rintro e w2 ⟨rfl, rfl⟩
    go_wp2
    go_ret
    exact ⟨ret_bool (by first | (rw [HR.out]; done) | (rw [HR.out]; exact decide_eq_false (by omega)) | (rw [HR.out]; exact decide_eq_true (by omega))), by rw [HBE.out]; exact Q1.out.2.1⟩
  | true =>
  rw [h2] at HF HQ; clear h2
  by_cases h3 : f.toList = t.toList
  · have q3 : (f.toList == t.toList) = true := by simp [h3]
    have q3' : (f.toList != t.toList) = false := by simp [h3]
    rw [q3] at HQ; clear h3
    have HR := Lib.hid (show R = false from HQ.out)
    go_enter Tryd.func26, Tryd.ntmps26
    go_wp2_with fail
    generalize hB : w.heap.size = B at *
    have HBE := Lib.hid hB; clear hB
    generalize w.alloc (.cells #[.int .i64 a, .int .i64 b, .string t, .string f, .int .i64 wt, .slice A zs.length cap, .int .i64 v] 31) = W at *
    refine (HL.out W).mono ?_; rintro e w1 ⟨rfl, hb1⟩
    have Q1 := Lib.hid (And.intro (H0.out.1.below hb1) (And.intro (H0.out.2.1.trans (hb1.mono (Nat.le_of_lt H0.out.1.lt))) (H0.out.2.2.below hb1)))
    obtain ⟨c0, c1, c2, c3, c4, c5, c6⟩ := Q1.out.1.cells
    clear hb1
    go_wp2_with fail
    refine (HF.out w1).mono ?_; rintro e w2 ⟨rfl, rfl⟩
    go_wp2
    go_ret
    exact ⟨ret_bool (by first | (rw [HR.out]; done) | (rw [HR.out]; exact decide_eq_false (by omega)) | (rw [HR.out]; exact decide_eq_true (by omega))), by rw [HBE.out]; exact Q1.out.2.1⟩
  have q3 : (f.toList == t.toList) = false := by simpa using h3
  have q3' : (f.toList != t.toList) = true := by simpa using h3
  rw [q3] at HQ; clear h3
  cases h4 : inB wt 1 30000 with
  | false =>
    rw [h4] at HW HQ; clear h4
    have HR := Lib.hid (show R = false from HQ.out)
    go_enter Tryd.func26, Tryd.ntmps26
    go_wp2_with fail
    generalize hB : w.heap.size = B at *
    have HBE := Lib.hid hB; clear hB
    generalize w.alloc (.cells #[.int .i64 a, .int .i64 b, .string t, .string f, .int .i64 wt, .slice A zs.length cap, .int .i64 v] 31) = W at *
    refine (HL.out W).mono ?_; rintro e w1 ⟨rfl, hb1⟩
    have Q1 := Lib.hid (And.intro (H0.out.1.below hb1) (And.intro (H0.out.2.1.trans (hb1.mono (Nat.le_of_lt H0.out.1.lt))) (H0.out.2.2.below hb1)))
    obtain ⟨c0, c1, c2, c3, c4, c5, c6⟩ := Q1.out.1.cells
    clear hb1
    go_wp2_with fail
    refine (HF.out w1).mono ?_; rintro e w2 ⟨rfl, rfl⟩
    go_wp2_with fail
    refine (HW.out w1).mono ?_; rintro e w2 ⟨rfl, rfl⟩
    go_wp2
    go_ret
    exact ⟨ret_bool (by first | (rw [HR.out]; done) | (rw [HR.out]; exact decide_eq_false (by omega)) | (rw [HR.out]; exact decide_eq_true (by omega))), by rw [HBE.out]; exact Q1.out.2.1⟩
  | true =>
  rw [h4] at HW HQ; clear h4
  cases h5 : thrB zs with
  | false =>
    rw [h5] at H3 HQ; clear h5
    have HR := Lib.hid (show R = false from HQ.out)
    go_enter Tryd.func26, Tryd.ntmps26
    go_wp2_with fail
    generalize hB : w.heap.size = B at *
    have HBE := Lib.hid hB; clear hB
    generalize w.alloc (.cells #[.int .i64 a, .int .i64 b, .string t, .string f, .int .i64 wt, .slice A zs.length cap, .int .i64 v] 31) = W at *
    refine (HL.out W).mono ?_; rintro e w1 ⟨rfl, hb1⟩
    have Q1 := Lib.hid (And.intro (H0.out.1.below hb1) (And.intro (H0.out.2.1.trans (hb1.mono (Nat.le_of_lt H0.out.1.lt))) (H0.out.2.2.below hb1)))
    obtain ⟨c0, c1, c2, c3, c4, c5, c6⟩ := Q1.out.1.cells
    clear hb1
    go_wp2_with fail
    refine (HF.out w1).mono ?_; rintro e w2 ⟨rfl, rfl⟩
    go_wp2_with fail
    refine (HW.out w1).mono ?_; rintro e w2 ⟨rfl, rfl⟩
    go_wp2_with fail
    refine (H3.out w1 Q1.out.2.2).mono ?_; rintro e w2 ⟨rfl, rfl⟩
    go_wp2
    go_ret
    exact ⟨ret_bool (by first | (rw [HR.out]; done) | (rw [HR.out]; exact decide_eq_false (by omega)) | (rw [HR.out]; exact decide_eq_true (by omega))), by rw [HBE.out]; exact Q1.out.2.1⟩
  | true =>
  rw [h5] at H3 HQ; clear h5
  generalize girth zs = G at *
  by_cases h6 : G ≤ 3600
  rotate_left
  · have q6 : decide (G ≤ 3600) = false := by simp; omega
    rw [q6] at HQ
    have HR := Lib.hid (show R = false from HQ.out)
    go_enter Tryd.func26, Tryd.ntmps26
    go_wp2_with fail
    generalize hB : w.heap.size = B at *
    have HBE := Lib.hid hB; clear hB
    generalize w.alloc (.cells #[.int .i64 a, .int .i64 b, .string t, .string f, .int .i64 wt, .slice A zs.length cap, .int .i64 v] 31) = W at *
    refine (HL.out W).mono ?_; rintro e w1 ⟨rfl, hb1⟩
    have Q1 := Lib.hid (And.intro (H0.out.1.below hb1) (And.intro (H0.out.2.1.trans (hb1.mono (Nat.le_of_lt H0.out.1.lt))) (H0.out.2.2.below hb1)))
    obtain ⟨c0, c1, c2, c3, c4, c5, c6⟩ := Q1.out.1.cells
    clear hb1
    go_wp2_with fail
    refine (HF.out w1).mono ?_; rintro e w2 ⟨rfl, rfl⟩
    go_wp2_with fail
    refine (HW.out w1).mono ?_; rintro e w2 ⟨rfl, rfl⟩
    go_wp2_with fail
    refine (H3.out w1 Q1.out.2.2).mono ?_; rintro e w2 ⟨rfl, rfl⟩
    go_wp2_with fail
    refine (HG.out w1 Q1.out.2.2).mono ?_; rintro e w2 ⟨rfl, hb2⟩
    have Q2 := Lib.hid (And.intro (Q1.out.1.below hb2) (Q1.out.2.1.trans (hb2.mono (by have h1 := Q1.out.1.lt; omega))))
    clear c0 c1 c2 c3 c4 c5 c6
    obtain ⟨c0, c1, c2, c3, c4, c5, c6⟩ := Q2.out.1.cells
    clear hb2
    go_wp2
    go_ret
    exact ⟨ret_bool (by first | (rw [HR.out]; done) | (rw [HR.out]; exact decide_eq_false (by omega)) | (rw [HR.out]; exact decide_eq_true (by omega))), by rw [HBE.out]; exact Q2.out.2⟩
  have q6 : decide (G ≤ 3600) = true := by simp; omega
  rw [q6] at HQ
  cases h7 : inB v 0 500000 with
  | false =>
    rw [h7] at HV HQ; clear h7
    have HR := Lib.hid (show R = false from HQ.out)
    go_enter Tryd.func26, Tryd.ntmps26
    go_wp2_with fail
    generalize hB : w.heap.size = B at *
    have HBE := Lib.hid hB; clear hB
    generalize w.alloc (.cells #[.int .i64 a, .int .i64 b, .string t, .string f, .int .i64 wt, .slice A zs.length cap, .int .i64 v] 31) = W at *
    refine (HL.out W).mono ?_; rintro e w1 ⟨rfl, hb1⟩
    have Q1 := Lib.hid (And.intro (H0.out.1.below hb1) (And.intro (H0.out.2.1.trans (hb1.mono (Nat.le_of_lt H0.out.1.lt))) (H0.out.2.2.below hb1)))
    obtain ⟨c0, c1, c2, c3, c4, c5, c6⟩ := Q1.out.1.cells
    clear hb1
    go_wp2_with fail
    refine (HF.out w1).mono ?_; rintro e w2 ⟨rfl, rfl⟩
    go_wp2_with fail
    refine (HW.out w1).mono ?_; rintro e w2 ⟨rfl, rfl⟩
    go_wp2_with fail
    refine (H3.out w1 Q1.out.2.2).mono ?_; rintro e w2 ⟨rfl, rfl⟩
    go_wp2_with fail
    refine (HG.out w1 Q1.out.2.2).mono ?_; rintro e w2 ⟨rfl, hb2⟩
    have Q2 := Lib.hid (And.intro (Q1.out.1.below hb2) (Q1.out.2.1.trans (hb2.mono (by have h1 := Q1.out.1.lt; omega))))
    clear c0 c1 c2 c3 c4 c5 c6
    obtain ⟨c0, c1, c2, c3, c4, c5, c6⟩ := Q2.out.1.cells
    clear hb2
    go_wp2_with fail
    refine (HV.out w2).mono ?_; rintro e w3 ⟨rfl, rfl⟩
    go_wp2
    go_ret
    exact ⟨ret_bool (by first | (rw [HR.out]; done) | (rw [HR.out]; exact decide_eq_false (by omega)) | (rw [HR.out]; exact decide_eq_true (by omega))), by rw [HBE.out]; exact Q2.out.2⟩
  | true =>
    rw [h7] at HV HQ; clear h7
    have HR := Lib.hid (show R = true from HQ.out)
    go_enter Tryd.func26, Tryd.ntmps26
    go_wp2_with fail
    generalize hB : w.heap.size = B at *
    have HBE := Lib.hid hB; clear hB
    generalize w.alloc (.cells #[.int .i64 a, .int .i64 b, .string t, .string f, .int .i64 wt, .slice A zs.length cap, .int .i64 v] 31) = W at *
    refine (HL.out W).mono ?_; rintro e w1 ⟨rfl, hb1⟩
    have Q1 := Lib.hid (And.intro (H0.out.1.below hb1) (And.intro (H0.out.2.1.trans (hb1.mono (Nat.le_of_lt H0.out.1.lt))) (H0.out.2.2.below hb1)))
    obtain ⟨c0, c1, c2, c3, c4, c5, c6⟩ := Q1.out.1.cells
    clear hb1
    go_wp2_with fail
    refine (HF.out w1).mono ?_; rintro e w2 ⟨rfl, rfl⟩
    go_wp2_with fail
    refine (HW.out w1).mono ?_; rintro e w2 ⟨rfl, rfl⟩
    go_wp2_with fail
    refine (H3.out w1 Q1.out.2.2).mono ?_; rintro e w2 ⟨rfl, rfl⟩
    go_wp2_with fail
    refine (HG.out w1 Q1.out.2.2).mono ?_; rintro e w2 ⟨rfl, hb2⟩
    have Q2 := Lib.hid (And.intro (Q1.out.1.below hb2) (Q1.out.2.1.trans (hb2.mono (by have h1 := Q1.out.1.lt; omega))))
    clear c0 c1 c2 c3 c4 c5 c6
    obtain ⟨c0, c1, c2, c3, c4, c5, c6⟩ := Q2.out.1.cells
    clear hb2
    go_wp2_with fail
    refine (HV.out w2).mono ?_; rintro e w3 ⟨rfl, rfl⟩
    go_wp2
    go_ret
    exact ⟨ret_bool (by first | (rw [HR.out]; done) | (rw [HR.out]; exact decide_eq_false (by omega)) | (rw [HR.out]; exact decide_eq_true (by omega))), by rw [HBE.out]; exact Q2.out.2⟩
def chW (a b : Int) (t f : ByteArray) (wt : Int) (zs : List Int) (v : Int) : Int := if parB a b t f wt zs v then max wt ((vol zs + 4999) / 5000) else 0
theorem parB_wt {a b : Int} {t f : ByteArray} {wt : Int} {zs : List Int} {v : Int} (h : parB a b t f wt zs v = true) : 1 ≤ wt ∧ wt ≤ 30000 := by
  unfold parB at h
  simp only [Bool.and_eq_true] at h
  exact inB_iff.1 h.2.2.2.1
theorem chW_bd (a b : Int) (t f : ByteArray) (wt : Int) (zs : List Int) (v : Int) : 0 ≤ chW a b t f wt zs v ∧ chW a b t f wt zs v ≤ 2000000 := by
  unfold chW
  split
  · next h =>
    have h1 := parB_wt h
    have h2 := vol_bd (l := zs)
    omega
  · omega
end Go.Proofs.YtichnpjpldkceaaDoor
