/- The contract of impl.IsScan. Written by mk/scanw.py. -/
import Derived.Test.YtamlbiagjipedaaGreatFitsK
namespace Go.Proofs.YtamlbiagjipedaaGreat
open Go.RowKit
theorem scB_net {l : List Lg} {zs : List Int} {x : Int} {r : Sc} (h : netB l zs x = false) : scB l zs x r = false := by unfold scB; rw [h]; rfl
theorem scB_h {l : List Lg} {zs : List Int} {x : Int} {r : Sc} (h : ¬ (1 ≤ r.h ∧ r.h ≤ 9999)) : scB l zs x r = false := by unfold scB; rw [decide_eq_false h]; simp
theorem scB_a {l : List Lg} {zs : List Int} {x : Int} {r : Sc} (h : ¬ (0 ≤ r.a ∧ r.a ≤ 100000)) : scB l zs x r = false := by unfold scB; rw [decide_eq_false h]; simp
theorem scB_k {l : List Lg} {zs : List Int} {x : Int} {r : Sc} (h1 : netB l zs x = true) (h2 : 1 ≤ r.h ∧ r.h ≤ 9999) (h3 : 0 ≤ r.a ∧ r.a ≤ 100000) : scB l zs x r = kindB l zs x r := by unfold scB; rw [h1, decide_eq_true h2, decide_eq_true h3]; rfl
set_option maxRecDepth 100000 in
set_option maxHeartbeats 4000000 in
theorem is_sc (h a k : Int) (p : ByteArray) (g d : Int) (A : Option Addr) (ca : Nat) (l : List Lg) (D : Option Addr) (cd : Nat) (zs : List Int) (x : Int) (w : World) (hA : InK 6 lgC w A l) (hD : IntsIn w D zs) (hs : ∀ z ∈ l, z.f.size ≤ maxLen ∧ z.t.size ≤ maxLen) (hn : l.length ≤ 1048576) (hm : zs.length ≤ 1048576) :
    Calls Tryz.prog 60 #[.agg #[.slice A l.length ca, .slice D zs.length cd, .int .i64 x], .agg #[.int .i64 h, .int .i64 a, .int .i64 k, .string p, .int .i64 g, .int .i64 d]] w fun e w' => e = .returned (.bool (scB l zs x ⟨h, a, k, p, g, d⟩)) ∧ Below w.heap.size w w' := by
  have H2 := Lib.hid (two w (.cells #[.slice A l.length ca, .slice D zs.length cd, .int .i64 x] 27) (.cells #[.int .i64 h, .int .i64 a, .int .i64 k, .string p, .int .i64 g, .int .i64 d] 34))
  have HA := Lib.hid (hA.below H2.out.2.2.1); have HD := Lib.hid (hD.below H2.out.2.2.1); clear hA hD
  have HI := Lib.hid (fun W (h1 : InK 6 lgC W A l) (h2 : IntsIn W D zs) => is_net A ca l D cd zs x W h1 h2 hs hn hm)
  have HF := Lib.hid (fun W (h1 : InK 6 lgC W A l) (h2 : IntsIn W D zs) => fits_impl h a k p g d A ca l D cd zs x W h1 h2 hs hn hm)
  have HV1 := Lib.hid (scB_net (l := l) (zs := zs) (x := x) (r := ⟨h, a, k, p, g, d⟩))
  have HV2 := Lib.hid (fun q => scB_h (l := l) (zs := zs) (x := x) (r := ⟨h, a, k, p, g, d⟩) q)
  have HV3 := Lib.hid (fun q => scB_a (l := l) (zs := zs) (x := x) (r := ⟨h, a, k, p, g, d⟩) q)
  have HV4 := Lib.hid (fun q0 q1 q2 => scB_k (l := l) (zs := zs) (x := x) (r := ⟨h, a, k, p, g, d⟩) q0 q1 q2)
  dsimp only at HV1 HV2 HV3 HV4
  clear hs
  generalize scB l zs x ⟨h, a, k, p, g, d⟩ = V at *
  generalize kindB l zs x ⟨h, a, k, p, g, d⟩ = K at *
  cases hnet : netB l zs x with
  | false =>
    have HV := Lib.hid (HV1.out hnet)
    rw [hnet] at HI; clear hnet HV1 HV2 HV3 HV4 HF
    go_enter Tryz.func60, Tryz.ntmps60
    go_wp2_with fail
    generalize hB : w.heap.size = B at *
    have HBE := Lib.hid hB; clear hB
    generalize (w.alloc (.cells #[.slice A l.length ca, .slice D zs.length cd, .int .i64 x] 27)).alloc (.cells #[.int .i64 h, .int .i64 a, .int .i64 k, .string p, .int .i64 g, .int .i64 d] 34) = W at *
    obtain ⟨h1, h2, h3, h4⟩ := H2.out
    have hBn := Box3.cells (show Box3 27 W B _ _ _ from h1)
    obtain ⟨b0, b1, b2⟩ := hBn
    obtain ⟨s0, s1, s2, s3, s4, s5⟩ := row6 h2
    have HB0 := Lib.hid h3
    have hW0 : B < W.heap.size := by omega
    have hW1 : B + 1 < W.heap.size := by omega
    clear h1 h2 h3
    refine (HI.out W HA.out HD.out).mono ?_; rintro e w1 ⟨rfl, hb1⟩
    have HB1 := Lib.hid (HB0.out.trans (hb1.mono (by omega)))
    go_wp2
    go_ret
    exact ⟨ret_bool HV.out.symm, by rw [HBE.out]; exact HB1.out⟩
  | true =>
    replace HV4 := Lib.hid (HV4.out hnet)
    rw [hnet] at HI; clear hnet HV1
    by_cases q0 : 1 ≤ h
    · skip
      by_cases q1 : h ≤ 9999
      · skip
        by_cases q2 : 0 ≤ a
        · skip
          by_cases q3 : a ≤ 100000
          · skip
            have HV := Lib.hid (HV4.out ⟨q0, q1⟩ ⟨q2, q3⟩); clear HV2 HV3 HV4
            go_enter Tryz.func60, Tryz.ntmps60
            go_wp2_with fail
            generalize hB : w.heap.size = B at *
            have HBE := Lib.hid hB; clear hB
            generalize (w.alloc (.cells #[.slice A l.length ca, .slice D zs.length cd, .int .i64 x] 27)).alloc (.cells #[.int .i64 h, .int .i64 a, .int .i64 k, .string p, .int .i64 g, .int .i64 d] 34) = W at *
            obtain ⟨h1, h2, h3, h4⟩ := H2.out
            have hBn := Box3.cells (show Box3 27 W B _ _ _ from h1)
            obtain ⟨b0, b1, b2⟩ := hBn
            obtain ⟨s0, s1, s2, s3, s4, s5⟩ := row6 h2
            have HB0 := Lib.hid h3
            have hW0 : B < W.heap.size := by omega
            have hW1 : B + 1 < W.heap.size := by omega
            clear h1 h2 h3
            refine (HI.out W HA.out HD.out).mono ?_; rintro e w1 ⟨rfl, hb1⟩
            have HB1 := Lib.hid (HB0.out.trans (hb1.mono (by omega)))
            have e0 := (hb1.cell (p := ⟨B, 0, none⟩) hW0).trans b0; have e1 := (hb1.cell (p := ⟨B, 1, none⟩) hW0).trans b1; have e2 := (hb1.cell (p := ⟨B, 2, none⟩) hW0).trans b2
            have f0 := (hb1.cell (p := ⟨B + 1, 0, none⟩) hW1).trans s0; have f1 := (hb1.cell (p := ⟨B + 1, 1, none⟩) hW1).trans s1; have f2 := (hb1.cell (p := ⟨B + 1, 2, none⟩) hW1).trans s2; have f3 := (hb1.cell (p := ⟨B + 1, 3, none⟩) hW1).trans s3; have f4 := (hb1.cell (p := ⟨B + 1, 4, none⟩) hW1).trans s4; have f5 := (hb1.cell (p := ⟨B + 1, 5, none⟩) hW1).trans s5
            have HFW := Lib.hid (HF.out w1 (HA.out.below hb1) (HD.out.below hb1))
            go_wp2_with fail
            refine HFW.out.mono ?_; rintro e w2 ⟨rfl, hb2⟩
            have HB2 := Lib.hid (HB1.out.trans (hb2.mono (by have := hb1.size; omega)))
            go_wp2
            go_ret
            exact ⟨ret_bool HV.out.symm, by rw [HBE.out]; exact HB2.out⟩
          · have HV := Lib.hid (HV3.out (by omega)); clear HV2 HV3 HV4 HF
            go_enter Tryz.func60, Tryz.ntmps60
            go_wp2_with fail
            generalize hB : w.heap.size = B at *
            have HBE := Lib.hid hB; clear hB
            generalize (w.alloc (.cells #[.slice A l.length ca, .slice D zs.length cd, .int .i64 x] 27)).alloc (.cells #[.int .i64 h, .int .i64 a, .int .i64 k, .string p, .int .i64 g, .int .i64 d] 34) = W at *
            obtain ⟨h1, h2, h3, h4⟩ := H2.out
            have hBn := Box3.cells (show Box3 27 W B _ _ _ from h1)
            obtain ⟨b0, b1, b2⟩ := hBn
            obtain ⟨s0, s1, s2, s3, s4, s5⟩ := row6 h2
            have HB0 := Lib.hid h3
            have hW0 : B < W.heap.size := by omega
            have hW1 : B + 1 < W.heap.size := by omega
            clear h1 h2 h3
            refine (HI.out W HA.out HD.out).mono ?_; rintro e w1 ⟨rfl, hb1⟩
            have HB1 := Lib.hid (HB0.out.trans (hb1.mono (by omega)))
            have e0 := (hb1.cell (p := ⟨B, 0, none⟩) hW0).trans b0; have e1 := (hb1.cell (p := ⟨B, 1, none⟩) hW0).trans b1; have e2 := (hb1.cell (p := ⟨B, 2, none⟩) hW0).trans b2
            have f0 := (hb1.cell (p := ⟨B + 1, 0, none⟩) hW1).trans s0; have f1 := (hb1.cell (p := ⟨B + 1, 1, none⟩) hW1).trans s1; have f2 := (hb1.cell (p := ⟨B + 1, 2, none⟩) hW1).trans s2; have f3 := (hb1.cell (p := ⟨B + 1, 3, none⟩) hW1).trans s3; have f4 := (hb1.cell (p := ⟨B + 1, 4, none⟩) hW1).trans s4; have f5 := (hb1.cell (p := ⟨B + 1, 5, none⟩) hW1).trans s5
            go_wp2
            go_ret
            exact ⟨ret_bool HV.out.symm, by rw [HBE.out]; exact HB1.out⟩
        · have HV := Lib.hid (HV3.out (by omega)); clear HV2 HV3 HV4 HF
          go_enter Tryz.func60, Tryz.ntmps60
          go_wp2_with fail
          generalize hB : w.heap.size = B at *
          have HBE := Lib.hid hB; clear hB
          generalize (w.alloc (.cells #[.slice A l.length ca, .slice D zs.length cd, .int .i64 x] 27)).alloc (.cells #[.int .i64 h, .int .i64 a, .int .i64 k, .string p, .int .i64 g, .int .i64 d] 34) = W at *
          obtain ⟨h1, h2, h3, h4⟩ := H2.out
          have hBn := Box3.cells (show Box3 27 W B _ _ _ from h1)
          obtain ⟨b0, b1, b2⟩ := hBn
          obtain ⟨s0, s1, s2, s3, s4, s5⟩ := row6 h2
          have HB0 := Lib.hid h3
          have hW0 : B < W.heap.size := by omega
          have hW1 : B + 1 < W.heap.size := by omega
          clear h1 h2 h3
          refine (HI.out W HA.out HD.out).mono ?_; rintro e w1 ⟨rfl, hb1⟩
          have HB1 := Lib.hid (HB0.out.trans (hb1.mono (by omega)))
          have e0 := (hb1.cell (p := ⟨B, 0, none⟩) hW0).trans b0; have e1 := (hb1.cell (p := ⟨B, 1, none⟩) hW0).trans b1; have e2 := (hb1.cell (p := ⟨B, 2, none⟩) hW0).trans b2
          have f0 := (hb1.cell (p := ⟨B + 1, 0, none⟩) hW1).trans s0; have f1 := (hb1.cell (p := ⟨B + 1, 1, none⟩) hW1).trans s1; have f2 := (hb1.cell (p := ⟨B + 1, 2, none⟩) hW1).trans s2; have f3 := (hb1.cell (p := ⟨B + 1, 3, none⟩) hW1).trans s3; have f4 := (hb1.cell (p := ⟨B + 1, 4, none⟩) hW1).trans s4; have f5 := (hb1.cell (p := ⟨B + 1, 5, none⟩) hW1).trans s5
          go_wp2
          go_ret
          exact ⟨ret_bool HV.out.symm, by rw [HBE.out]; exact HB1.out⟩
      · have HV := Lib.hid (HV2.out (by omega)); clear HV2 HV3 HV4 HF
        go_enter Tryz.func60, Tryz.ntmps60
        go_wp2_with fail
        generalize hB : w.heap.size = B at *
        have HBE := Lib.hid hB; clear hB
        generalize (w.alloc (.cells #[.slice A l.length ca, .slice D zs.length cd, .int .i64 x] 27)).alloc (.cells #[.int .i64 h, .int .i64 a, .int .i64 k, .string p, .int .i64 g, .int .i64 d] 34) = W at *
        obtain ⟨h1, h2, h3, h4⟩ := H2.out
        have hBn := Box3.cells (show Box3 27 W B _ _ _ from h1)
        obtain ⟨b0, b1, b2⟩ := hBn
        obtain ⟨s0, s1, s2, s3, s4, s5⟩ := row6 h2
        have HB0 := Lib.hid h3
        have hW0 : B < W.heap.size := by omega
        have hW1 : B + 1 < W.heap.size := by omega
        clear h1 h2 h3
        refine (HI.out W HA.out HD.out).mono ?_; rintro e w1 ⟨rfl, hb1⟩
        have HB1 := Lib.hid (HB0.out.trans (hb1.mono (by omega)))
        have e0 := (hb1.cell (p := ⟨B, 0, none⟩) hW0).trans b0; have e1 := (hb1.cell (p := ⟨B, 1, none⟩) hW0).trans b1; have e2 := (hb1.cell (p := ⟨B, 2, none⟩) hW0).trans b2
        have f0 := (hb1.cell (p := ⟨B + 1, 0, none⟩) hW1).trans s0; have f1 := (hb1.cell (p := ⟨B + 1, 1, none⟩) hW1).trans s1; have f2 := (hb1.cell (p := ⟨B + 1, 2, none⟩) hW1).trans s2; have f3 := (hb1.cell (p := ⟨B + 1, 3, none⟩) hW1).trans s3; have f4 := (hb1.cell (p := ⟨B + 1, 4, none⟩) hW1).trans s4; have f5 := (hb1.cell (p := ⟨B + 1, 5, none⟩) hW1).trans s5
        go_wp2
        go_ret
        exact ⟨ret_bool HV.out.symm, by rw [HBE.out]; exact HB1.out⟩
    · have HV := Lib.hid (HV2.out (by omega)); clear HV2 HV3 HV4 HF
      go_enter Tryz.func60, Tryz.ntmps60
      go_wp2_with fail
      generalize hB : w.heap.size = B at *
      have HBE := Lib.hid hB; clear hB
      generalize (w.alloc (.cells #[.slice A l.length ca, .slice D zs.length cd, .int .i64 x] 27)).alloc (.cells #[.int .i64 h, .int .i64 a, .int .i64 k, .string p, .int .i64 g, .int .i64 d] 34) = W at *
      obtain ⟨h1, h2, h3, h4⟩ := H2.out
      have hBn := Box3.cells (show Box3 27 W B _ _ _ from h1)
      obtain ⟨b0, b1, b2⟩ := hBn
      obtain ⟨s0, s1, s2, s3, s4, s5⟩ := row6 h2
      have HB0 := Lib.hid h3
      have hW0 : B < W.heap.size := by omega
      have hW1 : B + 1 < W.heap.size := by omega
      clear h1 h2 h3
      refine (HI.out W HA.out HD.out).mono ?_; rintro e w1 ⟨rfl, hb1⟩
      have HB1 := Lib.hid (HB0.out.trans (hb1.mono (by omega)))
      have e0 := (hb1.cell (p := ⟨B, 0, none⟩) hW0).trans b0; have e1 := (hb1.cell (p := ⟨B, 1, none⟩) hW0).trans b1; have e2 := (hb1.cell (p := ⟨B, 2, none⟩) hW0).trans b2
      have f0 := (hb1.cell (p := ⟨B + 1, 0, none⟩) hW1).trans s0; have f1 := (hb1.cell (p := ⟨B + 1, 1, none⟩) hW1).trans s1; have f2 := (hb1.cell (p := ⟨B + 1, 2, none⟩) hW1).trans s2; have f3 := (hb1.cell (p := ⟨B + 1, 3, none⟩) hW1).trans s3; have f4 := (hb1.cell (p := ⟨B + 1, 4, none⟩) hW1).trans s4; have f5 := (hb1.cell (p := ⟨B + 1, 5, none⟩) hW1).trans s5
      go_wp2
      go_ret
      exact ⟨ret_bool HV.out.symm, by rw [HBE.out]; exact HB1.out⟩
end Go.Proofs.YtamlbiagjipedaaGreat
