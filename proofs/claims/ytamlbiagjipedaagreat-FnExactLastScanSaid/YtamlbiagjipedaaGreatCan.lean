/- The contract of impl.CanFollow. Written by mk/fol.py. -/
import Derived.Test.YtamlbiagjipedaaGreatFol
namespace Go.Proofs.YtamlbiagjipedaaGreat
open Go.RowKit
theorem can_a {l : List Lg} {zs : List Int} {x : Int} {a b : Sc} (h : scB l zs x a = false) : canB l zs x a b = false := by unfold canB; rw [h]; rfl
theorem can_b {l : List Lg} {zs : List Int} {x : Int} {a b : Sc} (h : scB l zs x b = false) : canB l zs x a b = false := by unfold canB; rw [h]; simp
theorem can_h {l : List Lg} {zs : List Int} {x : Int} {a b : Sc} (h : ¬ a.h = b.h) : canB l zs x a b = false := by unfold canB; rw [decide_eq_false h]; simp
theorem can_c {l : List Lg} {zs : List Int} {x : Int} {a b : Sc} (h : ¬ cmpSc a b < 0) : canB l zs x a b = false := by unfold canB; rw [decide_eq_false h]; simp
theorem can_f {l : List Lg} {zs : List Int} {x : Int} {a b : Sc} (h1 : scB l zs x a = true) (h2 : scB l zs x b = true) (h3 : a.h = b.h) (h4 : cmpSc a b < 0) : canB l zs x a b = folB l zs x a b := by unfold canB; rw [h1, h2, decide_eq_true h3, decide_eq_true h4]; rfl
set_option maxRecDepth 100000 in
set_option maxHeartbeats 8000000 in
theorem can_impl (h a k : Int) (p : ByteArray) (g d : Int) (h' a' k' : Int) (p' : ByteArray) (g' d' : Int) (A : Option Addr) (ca : Nat) (l : List Lg) (D : Option Addr) (cd : Nat) (zs : List Int) (x : Int) (w : World) (hA : InK 6 lgC w A l) (hD : IntsIn w D zs) (hs : ∀ z ∈ l, z.f.size ≤ maxLen ∧ z.t.size ≤ maxLen) (hn : l.length ≤ 1048576) (hm : zs.length ≤ 1048576) (hp : p.size ≤ maxLen) :
    Calls Tryz.prog 32 #[.agg #[.slice A l.length ca, .slice D zs.length cd, .int .i64 x], .agg #[.int .i64 h, .int .i64 a, .int .i64 k, .string p, .int .i64 g, .int .i64 d], .agg #[.int .i64 h', .int .i64 a', .int .i64 k', .string p', .int .i64 g', .int .i64 d']] w fun e w' => e = .returned (.bool (canB l zs x ⟨h, a, k, p, g, d⟩ ⟨h', a', k', p', g', d'⟩)) ∧ Below w.heap.size w w' := by
  have H3 := Lib.hid (three w (.cells #[.slice A l.length ca, .slice D zs.length cd, .int .i64 x] 27) (.cells #[.int .i64 h, .int .i64 a, .int .i64 k, .string p, .int .i64 g, .int .i64 d] 34) (.cells #[.int .i64 h', .int .i64 a', .int .i64 k', .string p', .int .i64 g', .int .i64 d'] 34))
  have HA := Lib.hid (hA.below H3.out.2.2.2.1); have HD := Lib.hid (hD.below H3.out.2.2.2.1); clear hA hD
  have HIA := Lib.hid (fun W (h1 : InK 6 lgC W A l) (h2 : IntsIn W D zs) => is_sc h a k p g d A ca l D cd zs x W h1 h2 hs hn hm)
  have HIB := Lib.hid (fun W (h1 : InK 6 lgC W A l) (h2 : IntsIn W D zs) => is_sc h' a' k' p' g' d' A ca l D cd zs x W h1 h2 hs hn hm)
  have HCM := Lib.hid (fun W => cmp_sc_impl h a k p g d h' a' k' p' g' d' W)
  have HFO := Lib.hid (fun W (h1 : InK 6 lgC W A l) (h2 : IntsIn W D zs) => fol_impl h a k p g d h' a' k' p' g' d' A ca l D cd zs x W h1 h2 hs hn hm hp)
  have V1 := Lib.hid (fun q => can_a (l := l) (zs := zs) (x := x) (a := ⟨h, a, k, p, g, d⟩) (b := ⟨h', a', k', p', g', d'⟩) q)
  have V2 := Lib.hid (fun q => can_b (l := l) (zs := zs) (x := x) (a := ⟨h, a, k, p, g, d⟩) (b := ⟨h', a', k', p', g', d'⟩) q)
  have V3 := Lib.hid (fun q => can_h (l := l) (zs := zs) (x := x) (a := ⟨h, a, k, p, g, d⟩) (b := ⟨h', a', k', p', g', d'⟩) q)
  have V4 := Lib.hid (fun q => can_c (l := l) (zs := zs) (x := x) (a := ⟨h, a, k, p, g, d⟩) (b := ⟨h', a', k', p', g', d'⟩) q)
  have V5 := Lib.hid (fun q1 q2 q3 q4 => can_f (l := l) (zs := zs) (x := x) (a := ⟨h, a, k, p, g, d⟩) (b := ⟨h', a', k', p', g', d'⟩) q1 q2 q3 q4)
  dsimp only at V1 V2 V3 V4 V5
  clear hs
  generalize canB l zs x ⟨h, a, k, p, g, d⟩ ⟨h', a', k', p', g', d'⟩ = V at *
  generalize folB l zs x ⟨h, a, k, p, g, d⟩ ⟨h', a', k', p', g', d'⟩ = FV at *
  generalize cmpSc ⟨h, a, k, p, g, d⟩ ⟨h', a', k', p', g', d'⟩ = CV at *
  generalize scB l zs x ⟨h, a, k, p, g, d⟩ = SA at *
  generalize scB l zs x ⟨h', a', k', p', g', d'⟩ = SB at *
  cases SA with
  | false =>
    have HV := Lib.hid (V1.out rfl); clear V1 V2 V3 V4 V5 HIB HCM HFO
    go_enter Tryz.func32, Tryz.ntmps32
    go_wp2_with fail
    generalize hB : w.heap.size = B at *
    have HBE := Lib.hid hB; clear hB
    generalize ((w.alloc (.cells #[.slice A l.length ca, .slice D zs.length cd, .int .i64 x] 27)).alloc (.cells #[.int .i64 h, .int .i64 a, .int .i64 k, .string p, .int .i64 g, .int .i64 d] 34)).alloc (.cells #[.int .i64 h', .int .i64 a', .int .i64 k', .string p', .int .i64 g', .int .i64 d'] 34) = W at *
    obtain ⟨h1, h2, h3, h4, h5⟩ := H3.out
    have FNW := Lib.hid (show Box3 27 W B (.slice A l.length ca) (.slice D zs.length cd) (.int .i64 x) from h1)
    have FAW := Lib.hid (show BoxS 34 W (B + 1) _ _ _ _ _ _ from h2); have FBW := Lib.hid (show BoxS 34 W (B + 2) _ _ _ _ _ _ from h3)
    have HBW := Lib.hid h4; have HAW := HA; have HDW := HD
    clear h1 h2 h3 h4 h5 H3 HA HD
    refine (HIA.out W HAW.out HDW.out).mono ?_; rintro e w1 ⟨rfl, hb⟩
    have HBw1 := Lib.hid (HBW.out.trans (hb.mono (Nat.le_of_lt FNW.out.lt)))
    have FNw1 := Lib.hid (FNW.out.below hb); have FAw1 := Lib.hid (BoxS.below FAW.out hb); have FBw1 := Lib.hid (BoxS.below FBW.out hb); have HAw1 := Lib.hid (HAW.out.below hb); have HDw1 := Lib.hid (HDW.out.below hb)
    clear hb HBW FNW FAW FBW HAW HDW
    go_wp2
    go_ret
    exact ⟨ret_bool HV.out.symm, by rw [HBE.out]; exact HBw1.out⟩
  | true =>
    cases SB with
    | false =>
      have HV := Lib.hid (V2.out rfl); clear V1 V2 V3 V4 V5 HCM HFO
      go_enter Tryz.func32, Tryz.ntmps32
      go_wp2_with fail
      generalize hB : w.heap.size = B at *
      have HBE := Lib.hid hB; clear hB
      generalize ((w.alloc (.cells #[.slice A l.length ca, .slice D zs.length cd, .int .i64 x] 27)).alloc (.cells #[.int .i64 h, .int .i64 a, .int .i64 k, .string p, .int .i64 g, .int .i64 d] 34)).alloc (.cells #[.int .i64 h', .int .i64 a', .int .i64 k', .string p', .int .i64 g', .int .i64 d'] 34) = W at *
      obtain ⟨h1, h2, h3, h4, h5⟩ := H3.out
      have FNW := Lib.hid (show Box3 27 W B (.slice A l.length ca) (.slice D zs.length cd) (.int .i64 x) from h1)
      have FAW := Lib.hid (show BoxS 34 W (B + 1) _ _ _ _ _ _ from h2); have FBW := Lib.hid (show BoxS 34 W (B + 2) _ _ _ _ _ _ from h3)
      have HBW := Lib.hid h4; have HAW := HA; have HDW := HD
      clear h1 h2 h3 h4 h5 H3 HA HD
      refine (HIA.out W HAW.out HDW.out).mono ?_; rintro e w1 ⟨rfl, hb⟩
      have HBw1 := Lib.hid (HBW.out.trans (hb.mono (Nat.le_of_lt FNW.out.lt)))
      have FNw1 := Lib.hid (FNW.out.below hb); have FAw1 := Lib.hid (BoxS.below FAW.out hb); have FBw1 := Lib.hid (BoxS.below FBW.out hb); have HAw1 := Lib.hid (HAW.out.below hb); have HDw1 := Lib.hid (HDW.out.below hb)
      clear hb HBW FNW FAW FBW HAW HDW
      obtain ⟨b0, b1, b2⟩ := FNw1.out.cells
      obtain ⟨s0, s1, s2, s3, s4, s5⟩ := FAw1.out.cells
      obtain ⟨q0, q1, q2, q3, q4, q5⟩ := FBw1.out.cells
      go_wp2_with fail
      clear b0 b1 b2 s0 s1 s2 s3 s4 s5 q0 q1 q2 q3 q4 q5
      refine (HIB.out w1 HAw1.out HDw1.out).mono ?_; rintro e w2 ⟨rfl, hb⟩
      have HBw2 := Lib.hid (HBw1.out.trans (hb.mono (Nat.le_of_lt FNw1.out.lt)))
      have FNw2 := Lib.hid (FNw1.out.below hb); have FAw2 := Lib.hid (BoxS.below FAw1.out hb); have FBw2 := Lib.hid (BoxS.below FBw1.out hb); have HAw2 := Lib.hid (HAw1.out.below hb); have HDw2 := Lib.hid (HDw1.out.below hb)
      clear hb HBw1 FNw1 FAw1 FBw1 HAw1 HDw1
      go_wp2
      go_ret
      exact ⟨ret_bool HV.out.symm, by rw [HBE.out]; exact HBw2.out⟩
    | true =>
      by_cases e1 : h = h'
      rotate_left
      · have HV := Lib.hid (V3.out e1); clear V1 V2 V3 V4 V5 HCM HFO
        have t1 : (h == h') = false := beq_eq_false_iff_ne.2 e1
        clear e1
        go_enter Tryz.func32, Tryz.ntmps32
        go_wp2_with fail
        generalize hB : w.heap.size = B at *
        have HBE := Lib.hid hB; clear hB
        generalize ((w.alloc (.cells #[.slice A l.length ca, .slice D zs.length cd, .int .i64 x] 27)).alloc (.cells #[.int .i64 h, .int .i64 a, .int .i64 k, .string p, .int .i64 g, .int .i64 d] 34)).alloc (.cells #[.int .i64 h', .int .i64 a', .int .i64 k', .string p', .int .i64 g', .int .i64 d'] 34) = W at *
        obtain ⟨h1, h2, h3, h4, h5⟩ := H3.out
        have FNW := Lib.hid (show Box3 27 W B (.slice A l.length ca) (.slice D zs.length cd) (.int .i64 x) from h1)
        have FAW := Lib.hid (show BoxS 34 W (B + 1) _ _ _ _ _ _ from h2); have FBW := Lib.hid (show BoxS 34 W (B + 2) _ _ _ _ _ _ from h3)
        have HBW := Lib.hid h4; have HAW := HA; have HDW := HD
        clear h1 h2 h3 h4 h5 H3 HA HD
        refine (HIA.out W HAW.out HDW.out).mono ?_; rintro e w1 ⟨rfl, hb⟩
        have HBw1 := Lib.hid (HBW.out.trans (hb.mono (Nat.le_of_lt FNW.out.lt)))
        have FNw1 := Lib.hid (FNW.out.below hb); have FAw1 := Lib.hid (BoxS.below FAW.out hb); have FBw1 := Lib.hid (BoxS.below FBW.out hb); have HAw1 := Lib.hid (HAW.out.below hb); have HDw1 := Lib.hid (HDW.out.below hb)
        clear hb HBW FNW FAW FBW HAW HDW
        obtain ⟨b0, b1, b2⟩ := FNw1.out.cells
        obtain ⟨s0, s1, s2, s3, s4, s5⟩ := FAw1.out.cells
        obtain ⟨q0, q1, q2, q3, q4, q5⟩ := FBw1.out.cells
        go_wp2_with fail
        clear b0 b1 b2 s0 s1 s2 s3 s4 s5 q0 q1 q2 q3 q4 q5
        refine (HIB.out w1 HAw1.out HDw1.out).mono ?_; rintro e w2 ⟨rfl, hb⟩
        have HBw2 := Lib.hid (HBw1.out.trans (hb.mono (Nat.le_of_lt FNw1.out.lt)))
        have FNw2 := Lib.hid (FNw1.out.below hb); have FAw2 := Lib.hid (BoxS.below FAw1.out hb); have FBw2 := Lib.hid (BoxS.below FBw1.out hb); have HAw2 := Lib.hid (HAw1.out.below hb); have HDw2 := Lib.hid (HDw1.out.below hb)
        clear hb HBw1 FNw1 FAw1 FBw1 HAw1 HDw1
        obtain ⟨b0, b1, b2⟩ := FNw2.out.cells
        obtain ⟨s0, s1, s2, s3, s4, s5⟩ := FAw2.out.cells
        obtain ⟨q0, q1, q2, q3, q4, q5⟩ := FBw2.out.cells
        go_wp2
        go_ret
        exact ⟨ret_bool HV.out.symm, by rw [HBE.out]; exact HBw2.out⟩
      have t1 : (h == h') = true := by simp [e1]
      by_cases e2 : CV < 0
      rotate_left
      · have HV := Lib.hid (V4.out e2); clear V1 V2 V3 V4 V5 HFO e1
        go_enter Tryz.func32, Tryz.ntmps32
        go_wp2_with fail
        generalize hB : w.heap.size = B at *
        have HBE := Lib.hid hB; clear hB
        generalize ((w.alloc (.cells #[.slice A l.length ca, .slice D zs.length cd, .int .i64 x] 27)).alloc (.cells #[.int .i64 h, .int .i64 a, .int .i64 k, .string p, .int .i64 g, .int .i64 d] 34)).alloc (.cells #[.int .i64 h', .int .i64 a', .int .i64 k', .string p', .int .i64 g', .int .i64 d'] 34) = W at *
        obtain ⟨h1, h2, h3, h4, h5⟩ := H3.out
        have FNW := Lib.hid (show Box3 27 W B (.slice A l.length ca) (.slice D zs.length cd) (.int .i64 x) from h1)
        have FAW := Lib.hid (show BoxS 34 W (B + 1) _ _ _ _ _ _ from h2); have FBW := Lib.hid (show BoxS 34 W (B + 2) _ _ _ _ _ _ from h3)
        have HBW := Lib.hid h4; have HAW := HA; have HDW := HD
        clear h1 h2 h3 h4 h5 H3 HA HD
        refine (HIA.out W HAW.out HDW.out).mono ?_; rintro e w1 ⟨rfl, hb⟩
        have HBw1 := Lib.hid (HBW.out.trans (hb.mono (Nat.le_of_lt FNW.out.lt)))
        have FNw1 := Lib.hid (FNW.out.below hb); have FAw1 := Lib.hid (BoxS.below FAW.out hb); have FBw1 := Lib.hid (BoxS.below FBW.out hb); have HAw1 := Lib.hid (HAW.out.below hb); have HDw1 := Lib.hid (HDW.out.below hb)
        clear hb HBW FNW FAW FBW HAW HDW
        obtain ⟨b0, b1, b2⟩ := FNw1.out.cells
        obtain ⟨s0, s1, s2, s3, s4, s5⟩ := FAw1.out.cells
        obtain ⟨q0, q1, q2, q3, q4, q5⟩ := FBw1.out.cells
        go_wp2_with fail
        clear b0 b1 b2 s0 s1 s2 s3 s4 s5 q0 q1 q2 q3 q4 q5
        refine (HIB.out w1 HAw1.out HDw1.out).mono ?_; rintro e w2 ⟨rfl, hb⟩
        have HBw2 := Lib.hid (HBw1.out.trans (hb.mono (Nat.le_of_lt FNw1.out.lt)))
        have FNw2 := Lib.hid (FNw1.out.below hb); have FAw2 := Lib.hid (BoxS.below FAw1.out hb); have FBw2 := Lib.hid (BoxS.below FBw1.out hb); have HAw2 := Lib.hid (HAw1.out.below hb); have HDw2 := Lib.hid (HDw1.out.below hb)
        clear hb HBw1 FNw1 FAw1 FBw1 HAw1 HDw1
        obtain ⟨b0, b1, b2⟩ := FNw2.out.cells
        obtain ⟨s0, s1, s2, s3, s4, s5⟩ := FAw2.out.cells
        obtain ⟨q0, q1, q2, q3, q4, q5⟩ := FBw2.out.cells
        go_wp2_with fail
        clear b0 b1 b2 s0 s1 s2 s3 s4 s5 q0 q1 q2 q3 q4 q5
        refine (HCM.out w2).mono ?_; rintro e w3 ⟨rfl, hb⟩
        have HBw3 := Lib.hid (HBw2.out.trans (hb.mono (Nat.le_of_lt FNw2.out.lt)))
        have FNw3 := Lib.hid (FNw2.out.below hb); have FAw3 := Lib.hid (BoxS.below FAw2.out hb); have FBw3 := Lib.hid (BoxS.below FBw2.out hb); have HAw3 := Lib.hid (HAw2.out.below hb); have HDw3 := Lib.hid (HDw2.out.below hb)
        clear hb HBw2 FNw2 FAw2 FBw2 HAw2 HDw2
        obtain ⟨b0, b1, b2⟩ := FNw3.out.cells
        obtain ⟨s0, s1, s2, s3, s4, s5⟩ := FAw3.out.cells
        obtain ⟨q0, q1, q2, q3, q4, q5⟩ := FBw3.out.cells
        go_wp2
        go_ret
        exact ⟨ret_bool HV.out.symm, by rw [HBE.out]; exact HBw3.out⟩
      have HV := Lib.hid (V5.out rfl rfl e1 e2); clear V1 V2 V3 V4 V5 e1
      go_enter Tryz.func32, Tryz.ntmps32
      go_wp2_with fail
      generalize hB : w.heap.size = B at *
      have HBE := Lib.hid hB; clear hB
      generalize ((w.alloc (.cells #[.slice A l.length ca, .slice D zs.length cd, .int .i64 x] 27)).alloc (.cells #[.int .i64 h, .int .i64 a, .int .i64 k, .string p, .int .i64 g, .int .i64 d] 34)).alloc (.cells #[.int .i64 h', .int .i64 a', .int .i64 k', .string p', .int .i64 g', .int .i64 d'] 34) = W at *
      obtain ⟨h1, h2, h3, h4, h5⟩ := H3.out
      have FNW := Lib.hid (show Box3 27 W B (.slice A l.length ca) (.slice D zs.length cd) (.int .i64 x) from h1)
      have FAW := Lib.hid (show BoxS 34 W (B + 1) _ _ _ _ _ _ from h2); have FBW := Lib.hid (show BoxS 34 W (B + 2) _ _ _ _ _ _ from h3)
      have HBW := Lib.hid h4; have HAW := HA; have HDW := HD
      clear h1 h2 h3 h4 h5 H3 HA HD
      refine (HIA.out W HAW.out HDW.out).mono ?_; rintro e w1 ⟨rfl, hb⟩
      have HBw1 := Lib.hid (HBW.out.trans (hb.mono (Nat.le_of_lt FNW.out.lt)))
      have FNw1 := Lib.hid (FNW.out.below hb); have FAw1 := Lib.hid (BoxS.below FAW.out hb); have FBw1 := Lib.hid (BoxS.below FBW.out hb); have HAw1 := Lib.hid (HAW.out.below hb); have HDw1 := Lib.hid (HDW.out.below hb)
      clear hb HBW FNW FAW FBW HAW HDW
      obtain ⟨b0, b1, b2⟩ := FNw1.out.cells
      obtain ⟨s0, s1, s2, s3, s4, s5⟩ := FAw1.out.cells
      obtain ⟨q0, q1, q2, q3, q4, q5⟩ := FBw1.out.cells
      go_wp2_with fail
      clear b0 b1 b2 s0 s1 s2 s3 s4 s5 q0 q1 q2 q3 q4 q5
      refine (HIB.out w1 HAw1.out HDw1.out).mono ?_; rintro e w2 ⟨rfl, hb⟩
      have HBw2 := Lib.hid (HBw1.out.trans (hb.mono (Nat.le_of_lt FNw1.out.lt)))
      have FNw2 := Lib.hid (FNw1.out.below hb); have FAw2 := Lib.hid (BoxS.below FAw1.out hb); have FBw2 := Lib.hid (BoxS.below FBw1.out hb); have HAw2 := Lib.hid (HAw1.out.below hb); have HDw2 := Lib.hid (HDw1.out.below hb)
      clear hb HBw1 FNw1 FAw1 FBw1 HAw1 HDw1
      obtain ⟨b0, b1, b2⟩ := FNw2.out.cells
      obtain ⟨s0, s1, s2, s3, s4, s5⟩ := FAw2.out.cells
      obtain ⟨q0, q1, q2, q3, q4, q5⟩ := FBw2.out.cells
      go_wp2_with fail
      clear b0 b1 b2 s0 s1 s2 s3 s4 s5 q0 q1 q2 q3 q4 q5
      refine (HCM.out w2).mono ?_; rintro e w3 ⟨rfl, hb⟩
      have HBw3 := Lib.hid (HBw2.out.trans (hb.mono (Nat.le_of_lt FNw2.out.lt)))
      have FNw3 := Lib.hid (FNw2.out.below hb); have FAw3 := Lib.hid (BoxS.below FAw2.out hb); have FBw3 := Lib.hid (BoxS.below FBw2.out hb); have HAw3 := Lib.hid (HAw2.out.below hb); have HDw3 := Lib.hid (HDw2.out.below hb)
      clear hb HBw2 FNw2 FAw2 FBw2 HAw2 HDw2
      obtain ⟨b0, b1, b2⟩ := FNw3.out.cells
      obtain ⟨s0, s1, s2, s3, s4, s5⟩ := FAw3.out.cells
      obtain ⟨q0, q1, q2, q3, q4, q5⟩ := FBw3.out.cells
      go_wp2_with fail
      clear b0 b1 b2 s0 s1 s2 s3 s4 s5 q0 q1 q2 q3 q4 q5
      refine (HFO.out w3 HAw3.out HDw3.out).mono ?_; rintro e w4 ⟨rfl, hb⟩
      have HBw4 := Lib.hid (HBw3.out.trans (hb.mono (Nat.le_of_lt FNw3.out.lt)))
      have FNw4 := Lib.hid (FNw3.out.below hb); have FAw4 := Lib.hid (BoxS.below FAw3.out hb); have FBw4 := Lib.hid (BoxS.below FBw3.out hb); have HAw4 := Lib.hid (HAw3.out.below hb); have HDw4 := Lib.hid (HDw3.out.below hb)
      clear hb HBw3 FNw3 FAw3 FBw3 HAw3 HDw3
      go_wp2
      go_ret
      exact ⟨ret_bool HV.out.symm, by rw [HBE.out]; exact HBw4.out⟩
end Go.Proofs.YtamlbiagjipedaaGreat
