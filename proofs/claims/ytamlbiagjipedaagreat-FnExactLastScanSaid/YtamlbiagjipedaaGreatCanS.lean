/- The contracts of spec.l8Reach and spec.CanFollow. Written by mk/fol.py. -/
import Derived.Test.YtamlbiagjipedaaGreatCan
namespace Go.Proofs.YtamlbiagjipedaaGreat
open Go.RowKit
def reachB (l : List Lg) (zs : List Int) (x : Int) (P : ByteArray) (T : Int) (q : ByteArray) : Int := if P = q then T else earB l zs x P q T
set_option maxRecDepth 100000 in
set_option maxHeartbeats 4000000 in
theorem reach_spec (P : ByteArray) (T : Int) (q : ByteArray) (A : Option Addr) (ca : Nat) (l : List Lg) (D : Option Addr) (cd : Nat) (zs : List Int) (x : Int) (w : World) (hA : InK 6 lgC w A l) (hD : IntsIn w D zs) (hs : ∀ z ∈ l, z.f.size ≤ maxLen ∧ z.t.size ≤ maxLen) (hn : l.length ≤ 1048576) (hm : zs.length ≤ 1048576) :
    Calls Tryz.prog 93 #[.agg #[.slice A l.length ca, .slice D zs.length cd, .int .i64 x], .agg #[.string P, .int .i64 T], .string q] w fun e w' => e = .returned (.int .i64 (reachB l zs x P T q)) ∧ Below w.heap.size w w' := by
  have H2 := Lib.hid (two w (.cells #[.slice A l.length ca, .slice D zs.length cd, .int .i64 x] 27) (.cells #[.string P, .int .i64 T] 115))
  have HA := Lib.hid (hA.below H2.out.2.2.1); have HD := Lib.hid (hD.below H2.out.2.2.1); clear hA hD
  have HEA := Lib.hid (fun W (h1 : InK 6 lgC W A l) (h2 : IntsIn W D zs) => early_spec P q T A ca l D cd zs x W h1 h2 hs hn hm)
  by_cases e : P = q
  · have HV := Lib.hid (show reachB l zs x P T q = T from if_pos e)
    have hq := str_eq e
    have HB0 := Lib.hid H2.out.2.2.1
    clear HEA HA HD H2 e
    generalize reachB l zs x P T q = V at *
    go_enter Tryz.func93, Tryz.ntmps93
    go_wp2
    go_ret
    exact ⟨ret_int HV.out.symm, HB0.out⟩
  · have HV := Lib.hid (show reachB l zs x P T q = earB l zs x P q T from if_neg e)
    have hq := str_ne e
    clear e
    generalize reachB l zs x P T q = V at *
    go_enter Tryz.func93, Tryz.ntmps93
    go_wp2_with fail
    refine (HEA.out _ HA.out HD.out).mono ?_; rintro e w1 ⟨rfl, hb1⟩
    have HB1 := Lib.hid (H2.out.2.2.1.trans (hb1.mono (by rw [H2.out.2.2.2]; omega)))
    clear hb1 HEA HA HD H2
    go_wp2
    go_ret
    exact ⟨ret_int HV.out.symm, HB1.out⟩
theorem can_4 {l : List Lg} {zs : List Int} {x : Int} {a b : Sc} (h : a.k = 4) : canB l zs x a b = false := by unfold canB; rw [fol_done h]; simp
theorem reach_ear {l : List Lg} {zs : List Int} {x : Int} {r : Sc} {q : ByteArray} (h : scB l zs x r = true) : reachB l zs x (behP l zs x r) (behA l zs x r) q = earB l zs x (behP l zs x r) q (behA l zs x r) := by
  unfold reachB
  by_cases e : behP l zs x r = q
  · obtain ⟨h1, h2, h3, h4⟩ := beh_place h
    rw [if_pos e, ← e, ear_self h1 h2 ⟨h3, h4⟩]
  · rw [if_neg e]
set_option maxRecDepth 100000 in
set_option maxHeartbeats 8000000 in
theorem can_spec (h a k : Int) (p : ByteArray) (g d : Int) (h' a' k' : Int) (p' : ByteArray) (g' d' : Int) (A : Option Addr) (ca : Nat) (l : List Lg) (D : Option Addr) (cd : Nat) (zs : List Int) (x : Int) (w : World) (hA : InK 6 lgC w A l) (hD : IntsIn w D zs) (hs : ∀ z ∈ l, z.f.size ≤ maxLen ∧ z.t.size ≤ maxLen) (hn : l.length ≤ 1048576) (hm : zs.length ≤ 1048576) :
    Calls Tryz.prog 48 #[.agg #[.slice A l.length ca, .slice D zs.length cd, .int .i64 x], .agg #[.int .i64 h, .int .i64 a, .int .i64 k, .string p, .int .i64 g, .int .i64 d], .agg #[.int .i64 h', .int .i64 a', .int .i64 k', .string p', .int .i64 g', .int .i64 d']] w fun e w' => e = .returned (.bool (canB l zs x ⟨h, a, k, p, g, d⟩ ⟨h', a', k', p', g', d'⟩)) ∧ Below w.heap.size w w' := by
  have H3 := Lib.hid (three w (.cells #[.slice A l.length ca, .slice D zs.length cd, .int .i64 x] 27) (.cells #[.int .i64 h, .int .i64 a, .int .i64 k, .string p, .int .i64 g, .int .i64 d] 34) (.cells #[.int .i64 h', .int .i64 a', .int .i64 k', .string p', .int .i64 g', .int .i64 d'] 34))
  have HA := Lib.hid (hA.below H3.out.2.2.2.1); have HD := Lib.hid (hD.below H3.out.2.2.2.1); clear hA hD
  have HIA := Lib.hid (fun W (h1 : InK 6 lgC W A l) (h2 : IntsIn W D zs) => is_sc_spec h a k p g d A ca l D cd zs x W h1 h2 hs hn hm)
  have HIB := Lib.hid (fun W (h1 : InK 6 lgC W A l) (h2 : IntsIn W D zs) => is_sc_spec h' a' k' p' g' d' A ca l D cd zs x W h1 h2 hs hn hm)
  have HCM := Lib.hid (fun W => cmp_sc_spec h a k p g d h' a' k' p' g' d' W)
  have HBH := Lib.hid (fun W (h1 : InK 6 lgC W A l) (h2 : IntsIn W D zs) => behind_spec h a k p g d A ca l D cd zs x W h1 h2 hs hn hm)
  have HBF := Lib.hid (fun W (h1 : InK 6 lgC W A l) (h2 : IntsIn W D zs) => before_spec h' a' k' p' g' d' A ca l D cd zs x W h1 h2 hs hn hm)
  have HRE := Lib.hid (fun W (h1 : InK 6 lgC W A l) (h2 : IntsIn W D zs) => reach_spec (behP l zs x ⟨h, a, k, p, g, d⟩) (behA l zs x ⟨h, a, k, p, g, d⟩) (befP l zs x ⟨h', a', k', p', g', d'⟩) A ca l D cd zs x W h1 h2 hs hn hm)
  have HRB := Lib.hid (fun q => reach_ear (l := l) (zs := zs) (x := x) (r := ⟨h, a, k, p, g, d⟩) (q := befP l zs x ⟨h', a', k', p', g', d'⟩) q)
  have HEB := Lib.hid (ear_bd l zs x (behP l zs x ⟨h, a, k, p, g, d⟩) (befP l zs x ⟨h', a', k', p', g', d'⟩) (behA l zs x ⟨h, a, k, p, g, d⟩))
  have V1 := Lib.hid (fun q => can_a (l := l) (zs := zs) (x := x) (a := ⟨h, a, k, p, g, d⟩) (b := ⟨h', a', k', p', g', d'⟩) q)
  have V2 := Lib.hid (fun q => can_b (l := l) (zs := zs) (x := x) (a := ⟨h, a, k, p, g, d⟩) (b := ⟨h', a', k', p', g', d'⟩) q)
  have V3 := Lib.hid (fun q => can_h (l := l) (zs := zs) (x := x) (a := ⟨h, a, k, p, g, d⟩) (b := ⟨h', a', k', p', g', d'⟩) q)
  have V4 := Lib.hid (fun q => can_c (l := l) (zs := zs) (x := x) (a := ⟨h, a, k, p, g, d⟩) (b := ⟨h', a', k', p', g', d'⟩) q)
  have V6 := Lib.hid (fun q => can_4 (l := l) (zs := zs) (x := x) (a := ⟨h, a, k, p, g, d⟩) (b := ⟨h', a', k', p', g', d'⟩) q)
  have V5 := Lib.hid (fun q1 q2 q3 q4 => can_f (l := l) (zs := zs) (x := x) (a := ⟨h, a, k, p, g, d⟩) (b := ⟨h', a', k', p', g', d'⟩) q1 q2 q3 q4)
  have HVS := Lib.hid (fun q => fol_same (l := l) (zs := zs) (x := x) (a := ⟨h, a, k, p, g, d⟩) (b := ⟨h', a', k', p', g', d'⟩) q)
  have HVE := Lib.hid (fun q q2 => fol_else (l := l) (zs := zs) (x := x) (a := ⟨h, a, k, p, g, d⟩) (b := ⟨h', a', k', p', g', d'⟩) q q2)
  dsimp only at V1 V2 V3 V4 V5 V6 HVS HVE
  clear hs
  generalize canB l zs x ⟨h, a, k, p, g, d⟩ ⟨h', a', k', p', g', d'⟩ = V at *
  generalize folB l zs x ⟨h, a, k, p, g, d⟩ ⟨h', a', k', p', g', d'⟩ = FV at *
  generalize cmpSc ⟨h, a, k, p, g, d⟩ ⟨h', a', k', p', g', d'⟩ = CV at *
  generalize scB l zs x ⟨h, a, k, p, g, d⟩ = SA at *
  generalize scB l zs x ⟨h', a', k', p', g', d'⟩ = SB at *
  generalize reachB l zs x (behP l zs x ⟨h, a, k, p, g, d⟩) (behA l zs x ⟨h, a, k, p, g, d⟩) (befP l zs x ⟨h', a', k', p', g', d'⟩) = RE at *
  generalize earB l zs x (behP l zs x ⟨h, a, k, p, g, d⟩) (befP l zs x ⟨h', a', k', p', g', d'⟩) (behA l zs x ⟨h, a, k, p, g, d⟩) = E at *
  generalize behP l zs x ⟨h, a, k, p, g, d⟩ = BP at *
  generalize behA l zs x ⟨h, a, k, p, g, d⟩ = BA at *
  generalize befP l zs x ⟨h', a', k', p', g', d'⟩ = FP at *
  generalize befA l zs x ⟨h', a', k', p', g', d'⟩ = FT at *
  cases SA with
  | false =>
    have HV := Lib.hid (V1.out rfl); clear V1 V2 V3 V4 V5 V6 HVS HVE HIB HCM HBH HBF HRE HRB HEB
    go_enter Tryz.func48, Tryz.ntmps48
    go_wp2_with fail
    generalize hB : w.heap.size = B at *
    have HBE := Lib.hid hB; clear hB
    generalize ((w.alloc (.cells #[.slice A l.length ca, .slice D zs.length cd, .int .i64 x] 27)).alloc (.cells #[.int .i64 h, .int .i64 a, .int .i64 k, .string p, .int .i64 g, .int .i64 d] 34)).alloc (.cells #[.int .i64 h', .int .i64 a', .int .i64 k', .string p', .int .i64 g', .int .i64 d'] 34) = W at *
    obtain ⟨h1, h2, h3, h4, h5⟩ := H3.out
    have FNW := Lib.hid (show Box3 27 W B (.slice A l.length ca) (.slice D zs.length cd) (.int .i64 x) from h1)
    have FAW := Lib.hid (show BoxS 34 W (B + 1) _ _ _ _ _ _ from h2); have FBW := Lib.hid (show BoxS 34 W (B + 2) _ _ _ _ _ _ from h3)
    have HBW := Lib.hid h4; have HAW := HA; have HDW := HD
    clear h1 h2 h3 h4 h5 H3 HA HD
    refine (HIA.out W HAW.out HDW.out).mono ?_; rintro e w1 ⟨rfl, hb⟩
    have HBw1 := Lib.hid (HBW.out.trans (hb.mono (Nat.le_of_lt FNW.out.lt)))
    have FNw1 := Lib.hid (FNW.out.below hb); have FAw1 := Lib.hid (BoxS.below FAW.out hb); have FBw1 := Lib.hid (BoxS.below FBW.out hb); have HAw1 := Lib.hid (HAW.out.below hb); have HDw1 := Lib.hid (HDW.out.below hb)
    clear hb HBW FNW FAW FBW HAW HDW
    go_wp2
    go_ret
    exact ⟨ret_bool HV.out.symm, by rw [HBE.out]; exact HBw1.out⟩
  | true =>
    replace HRB := Lib.hid (HRB.out rfl)
    cases SB with
    | false =>
      have HV := Lib.hid (V2.out rfl); clear V1 V2 V3 V4 V5 V6 HVS HVE HBH HBF HRE HRB HEB HCM
      go_enter Tryz.func48, Tryz.ntmps48
      go_wp2_with fail
      generalize hB : w.heap.size = B at *
      have HBE := Lib.hid hB; clear hB
      generalize ((w.alloc (.cells #[.slice A l.length ca, .slice D zs.length cd, .int .i64 x] 27)).alloc (.cells #[.int .i64 h, .int .i64 a, .int .i64 k, .string p, .int .i64 g, .int .i64 d] 34)).alloc (.cells #[.int .i64 h', .int .i64 a', .int .i64 k', .string p', .int .i64 g', .int .i64 d'] 34) = W at *
      obtain ⟨h1, h2, h3, h4, h5⟩ := H3.out
      have FNW := Lib.hid (show Box3 27 W B (.slice A l.length ca) (.slice D zs.length cd) (.int .i64 x) from h1)
      have FAW := Lib.hid (show BoxS 34 W (B + 1) _ _ _ _ _ _ from h2); have FBW := Lib.hid (show BoxS 34 W (B + 2) _ _ _ _ _ _ from h3)
      have HBW := Lib.hid h4; have HAW := HA; have HDW := HD
      clear h1 h2 h3 h4 h5 H3 HA HD
      refine (HIA.out W HAW.out HDW.out).mono ?_; rintro e w1 ⟨rfl, hb⟩
      have HBw1 := Lib.hid (HBW.out.trans (hb.mono (Nat.le_of_lt FNW.out.lt)))
      have FNw1 := Lib.hid (FNW.out.below hb); have FAw1 := Lib.hid (BoxS.below FAW.out hb); have FBw1 := Lib.hid (BoxS.below FBW.out hb); have HAw1 := Lib.hid (HAW.out.below hb); have HDw1 := Lib.hid (HDW.out.below hb)
      clear hb HBW FNW FAW FBW HAW HDW
      obtain ⟨b0, b1, b2⟩ := FNw1.out.cells
      obtain ⟨s0, s1, s2, s3, s4, s5⟩ := FAw1.out.cells
      obtain ⟨q0, q1, q2, q3, q4, q5⟩ := FBw1.out.cells
      go_wp2_with fail
      clear b0 b1 b2 s0 s1 s2 s3 s4 s5 q0 q1 q2 q3 q4 q5
      refine (HIB.out w1 HAw1.out HDw1.out).mono ?_; rintro e w2 ⟨rfl, hb⟩
      have HBw2 := Lib.hid (HBw1.out.trans (hb.mono (Nat.le_of_lt FNw1.out.lt)))
      have FNw2 := Lib.hid (FNw1.out.below hb); have FAw2 := Lib.hid (BoxS.below FAw1.out hb); have FBw2 := Lib.hid (BoxS.below FBw1.out hb); have HAw2 := Lib.hid (HAw1.out.below hb); have HDw2 := Lib.hid (HDw1.out.below hb)
      clear hb HBw1 FNw1 FAw1 FBw1 HAw1 HDw1
      go_wp2
      go_ret
      exact ⟨ret_bool HV.out.symm, by rw [HBE.out]; exact HBw2.out⟩
    | true =>
      by_cases e1 : h = h'
      rotate_left
      · have HV := Lib.hid (V3.out e1); clear V1 V2 V3 V4 V5 V6 HVS HVE HBH HBF HRE HRB HEB HCM
        have t1 : (h != h') = true := by simp [e1]
        clear e1
        go_enter Tryz.func48, Tryz.ntmps48
        go_wp2_with fail
        generalize hB : w.heap.size = B at *
        have HBE := Lib.hid hB; clear hB
        generalize ((w.alloc (.cells #[.slice A l.length ca, .slice D zs.length cd, .int .i64 x] 27)).alloc (.cells #[.int .i64 h, .int .i64 a, .int .i64 k, .string p, .int .i64 g, .int .i64 d] 34)).alloc (.cells #[.int .i64 h', .int .i64 a', .int .i64 k', .string p', .int .i64 g', .int .i64 d'] 34) = W at *
        obtain ⟨h1, h2, h3, h4, h5⟩ := H3.out
        have FNW := Lib.hid (show Box3 27 W B (.slice A l.length ca) (.slice D zs.length cd) (.int .i64 x) from h1)
        have FAW := Lib.hid (show BoxS 34 W (B + 1) _ _ _ _ _ _ from h2); have FBW := Lib.hid (show BoxS 34 W (B + 2) _ _ _ _ _ _ from h3)
        have HBW := Lib.hid h4; have HAW := HA; have HDW := HD
        clear h1 h2 h3 h4 h5 H3 HA HD
        refine (HIA.out W HAW.out HDW.out).mono ?_; rintro e w1 ⟨rfl, hb⟩
        have HBw1 := Lib.hid (HBW.out.trans (hb.mono (Nat.le_of_lt FNW.out.lt)))
        have FNw1 := Lib.hid (FNW.out.below hb); have FAw1 := Lib.hid (BoxS.below FAW.out hb); have FBw1 := Lib.hid (BoxS.below FBW.out hb); have HAw1 := Lib.hid (HAW.out.below hb); have HDw1 := Lib.hid (HDW.out.below hb)
        clear hb HBW FNW FAW FBW HAW HDW
        obtain ⟨b0, b1, b2⟩ := FNw1.out.cells
        obtain ⟨s0, s1, s2, s3, s4, s5⟩ := FAw1.out.cells
        obtain ⟨q0, q1, q2, q3, q4, q5⟩ := FBw1.out.cells
        go_wp2_with fail
        clear b0 b1 b2 s0 s1 s2 s3 s4 s5 q0 q1 q2 q3 q4 q5
        refine (HIB.out w1 HAw1.out HDw1.out).mono ?_; rintro e w2 ⟨rfl, hb⟩
        have HBw2 := Lib.hid (HBw1.out.trans (hb.mono (Nat.le_of_lt FNw1.out.lt)))
        have FNw2 := Lib.hid (FNw1.out.below hb); have FAw2 := Lib.hid (BoxS.below FAw1.out hb); have FBw2 := Lib.hid (BoxS.below FBw1.out hb); have HAw2 := Lib.hid (HAw1.out.below hb); have HDw2 := Lib.hid (HDw1.out.below hb)
        clear hb HBw1 FNw1 FAw1 FBw1 HAw1 HDw1
        obtain ⟨b0, b1, b2⟩ := FNw2.out.cells
        obtain ⟨s0, s1, s2, s3, s4, s5⟩ := FAw2.out.cells
        obtain ⟨q0, q1, q2, q3, q4, q5⟩ := FBw2.out.cells
        go_wp2
        go_ret
        exact ⟨ret_bool HV.out.symm, by rw [HBE.out]; exact HBw2.out⟩
      have t1 : (h != h') = false := by simp [e1]
      by_cases k4 : k = 4
      · have HV := Lib.hid (V6.out k4); clear V1 V2 V3 V4 V5 V6 HVS HVE HBH HBF HRE HRB HEB HCM e1
        have t4 : (k == 4) = true := by simp [k4]
        clear k4
        go_enter Tryz.func48, Tryz.ntmps48
        go_wp2_with fail
        generalize hB : w.heap.size = B at *
        have HBE := Lib.hid hB; clear hB
        generalize ((w.alloc (.cells #[.slice A l.length ca, .slice D zs.length cd, .int .i64 x] 27)).alloc (.cells #[.int .i64 h, .int .i64 a, .int .i64 k, .string p, .int .i64 g, .int .i64 d] 34)).alloc (.cells #[.int .i64 h', .int .i64 a', .int .i64 k', .string p', .int .i64 g', .int .i64 d'] 34) = W at *
        obtain ⟨h1, h2, h3, h4, h5⟩ := H3.out
        have FNW := Lib.hid (show Box3 27 W B (.slice A l.length ca) (.slice D zs.length cd) (.int .i64 x) from h1)
        have FAW := Lib.hid (show BoxS 34 W (B + 1) _ _ _ _ _ _ from h2); have FBW := Lib.hid (show BoxS 34 W (B + 2) _ _ _ _ _ _ from h3)
        have HBW := Lib.hid h4; have HAW := HA; have HDW := HD
        clear h1 h2 h3 h4 h5 H3 HA HD
        refine (HIA.out W HAW.out HDW.out).mono ?_; rintro e w1 ⟨rfl, hb⟩
        have HBw1 := Lib.hid (HBW.out.trans (hb.mono (Nat.le_of_lt FNW.out.lt)))
        have FNw1 := Lib.hid (FNW.out.below hb); have FAw1 := Lib.hid (BoxS.below FAW.out hb); have FBw1 := Lib.hid (BoxS.below FBW.out hb); have HAw1 := Lib.hid (HAW.out.below hb); have HDw1 := Lib.hid (HDW.out.below hb)
        clear hb HBW FNW FAW FBW HAW HDW
        obtain ⟨b0, b1, b2⟩ := FNw1.out.cells
        obtain ⟨s0, s1, s2, s3, s4, s5⟩ := FAw1.out.cells
        obtain ⟨q0, q1, q2, q3, q4, q5⟩ := FBw1.out.cells
        go_wp2_with fail
        clear b0 b1 b2 s0 s1 s2 s3 s4 s5 q0 q1 q2 q3 q4 q5
        refine (HIB.out w1 HAw1.out HDw1.out).mono ?_; rintro e w2 ⟨rfl, hb⟩
        have HBw2 := Lib.hid (HBw1.out.trans (hb.mono (Nat.le_of_lt FNw1.out.lt)))
        have FNw2 := Lib.hid (FNw1.out.below hb); have FAw2 := Lib.hid (BoxS.below FAw1.out hb); have FBw2 := Lib.hid (BoxS.below FBw1.out hb); have HAw2 := Lib.hid (HAw1.out.below hb); have HDw2 := Lib.hid (HDw1.out.below hb)
        clear hb HBw1 FNw1 FAw1 FBw1 HAw1 HDw1
        obtain ⟨b0, b1, b2⟩ := FNw2.out.cells
        obtain ⟨s0, s1, s2, s3, s4, s5⟩ := FAw2.out.cells
        obtain ⟨q0, q1, q2, q3, q4, q5⟩ := FBw2.out.cells
        go_wp2
        go_ret
        exact ⟨ret_bool HV.out.symm, by rw [HBE.out]; exact HBw2.out⟩
      have t4 : (k == 4) = false := by simp [k4]
      by_cases e2 : CV < 0
      rotate_left
      · have HV := Lib.hid (V4.out e2); clear V1 V2 V3 V4 V5 V6 HVS HVE HBH HBF HRE HRB HEB e1 k4
        have e3 : 0 ≤ CV := by omega
        go_enter Tryz.func48, Tryz.ntmps48
        go_wp2_with fail
        generalize hB : w.heap.size = B at *
        have HBE := Lib.hid hB; clear hB
        generalize ((w.alloc (.cells #[.slice A l.length ca, .slice D zs.length cd, .int .i64 x] 27)).alloc (.cells #[.int .i64 h, .int .i64 a, .int .i64 k, .string p, .int .i64 g, .int .i64 d] 34)).alloc (.cells #[.int .i64 h', .int .i64 a', .int .i64 k', .string p', .int .i64 g', .int .i64 d'] 34) = W at *
        obtain ⟨h1, h2, h3, h4, h5⟩ := H3.out
        have FNW := Lib.hid (show Box3 27 W B (.slice A l.length ca) (.slice D zs.length cd) (.int .i64 x) from h1)
        have FAW := Lib.hid (show BoxS 34 W (B + 1) _ _ _ _ _ _ from h2); have FBW := Lib.hid (show BoxS 34 W (B + 2) _ _ _ _ _ _ from h3)
        have HBW := Lib.hid h4; have HAW := HA; have HDW := HD
        clear h1 h2 h3 h4 h5 H3 HA HD
        refine (HIA.out W HAW.out HDW.out).mono ?_; rintro e w1 ⟨rfl, hb⟩
        have HBw1 := Lib.hid (HBW.out.trans (hb.mono (Nat.le_of_lt FNW.out.lt)))
        have FNw1 := Lib.hid (FNW.out.below hb); have FAw1 := Lib.hid (BoxS.below FAW.out hb); have FBw1 := Lib.hid (BoxS.below FBW.out hb); have HAw1 := Lib.hid (HAW.out.below hb); have HDw1 := Lib.hid (HDW.out.below hb)
        clear hb HBW FNW FAW FBW HAW HDW
        obtain ⟨b0, b1, b2⟩ := FNw1.out.cells
        obtain ⟨s0, s1, s2, s3, s4, s5⟩ := FAw1.out.cells
        obtain ⟨q0, q1, q2, q3, q4, q5⟩ := FBw1.out.cells
        go_wp2_with fail
        clear b0 b1 b2 s0 s1 s2 s3 s4 s5 q0 q1 q2 q3 q4 q5
        refine (HIB.out w1 HAw1.out HDw1.out).mono ?_; rintro e w2 ⟨rfl, hb⟩
        have HBw2 := Lib.hid (HBw1.out.trans (hb.mono (Nat.le_of_lt FNw1.out.lt)))
        have FNw2 := Lib.hid (FNw1.out.below hb); have FAw2 := Lib.hid (BoxS.below FAw1.out hb); have FBw2 := Lib.hid (BoxS.below FBw1.out hb); have HAw2 := Lib.hid (HAw1.out.below hb); have HDw2 := Lib.hid (HDw1.out.below hb)
        clear hb HBw1 FNw1 FAw1 FBw1 HAw1 HDw1
        obtain ⟨b0, b1, b2⟩ := FNw2.out.cells
        obtain ⟨s0, s1, s2, s3, s4, s5⟩ := FAw2.out.cells
        obtain ⟨q0, q1, q2, q3, q4, q5⟩ := FBw2.out.cells
        go_wp2_with fail
        clear b0 b1 b2 s0 s1 s2 s3 s4 s5 q0 q1 q2 q3 q4 q5
        refine (HCM.out w2).mono ?_; rintro e w3 ⟨rfl, hb⟩
        have HBw3 := Lib.hid (HBw2.out.trans (hb.mono (Nat.le_of_lt FNw2.out.lt)))
        have FNw3 := Lib.hid (FNw2.out.below hb); have FAw3 := Lib.hid (BoxS.below FAw2.out hb); have FBw3 := Lib.hid (BoxS.below FBw2.out hb); have HAw3 := Lib.hid (HAw2.out.below hb); have HDw3 := Lib.hid (HDw2.out.below hb)
        clear hb HBw2 FNw2 FAw2 FBw2 HAw2 HDw2
        obtain ⟨b0, b1, b2⟩ := FNw3.out.cells
        obtain ⟨s0, s1, s2, s3, s4, s5⟩ := FAw3.out.cells
        obtain ⟨q0, q1, q2, q3, q4, q5⟩ := FBw3.out.cells
        go_wp2
        go_ret
        exact ⟨ret_bool HV.out.symm, by rw [HBE.out]; exact HBw3.out⟩
      have e3 : ¬ 0 ≤ CV := by omega
      have HV0 := Lib.hid (V5.out rfl rfl e1 e2); clear V1 V2 V3 V4 V5 V6 e1
      have hEQ := trip_eql g d g' d'
      by_cases q0 : k = 3 ∧ k' = 2 ∧ g = g' ∧ d = d'
      · have HV := Lib.hid (HV0.out.trans (HVS.out q0))
        have t3 : (k == 3) = true := by simp [q0.1]
        have t2 : (k' == 2) = true := by simp [q0.2.1]
        rw [show (g == g' && d == d') = true by simp [q0.2.2.1, q0.2.2.2]] at hEQ
        clear HVS HVE HBH HBF HRE HRB HEB k4 q0 HV0
        go_enter Tryz.func48, Tryz.ntmps48
        go_wp2_with fail
        generalize hB : w.heap.size = B at *
        have HBE := Lib.hid hB; clear hB
        generalize ((w.alloc (.cells #[.slice A l.length ca, .slice D zs.length cd, .int .i64 x] 27)).alloc (.cells #[.int .i64 h, .int .i64 a, .int .i64 k, .string p, .int .i64 g, .int .i64 d] 34)).alloc (.cells #[.int .i64 h', .int .i64 a', .int .i64 k', .string p', .int .i64 g', .int .i64 d'] 34) = W at *
        obtain ⟨h1, h2, h3, h4, h5⟩ := H3.out
        have FNW := Lib.hid (show Box3 27 W B (.slice A l.length ca) (.slice D zs.length cd) (.int .i64 x) from h1)
        have FAW := Lib.hid (show BoxS 34 W (B + 1) _ _ _ _ _ _ from h2); have FBW := Lib.hid (show BoxS 34 W (B + 2) _ _ _ _ _ _ from h3)
        have HBW := Lib.hid h4; have HAW := HA; have HDW := HD
        clear h1 h2 h3 h4 h5 H3 HA HD
        refine (HIA.out W HAW.out HDW.out).mono ?_; rintro e w1 ⟨rfl, hb⟩
        have HBw1 := Lib.hid (HBW.out.trans (hb.mono (Nat.le_of_lt FNW.out.lt)))
        have FNw1 := Lib.hid (FNW.out.below hb); have FAw1 := Lib.hid (BoxS.below FAW.out hb); have FBw1 := Lib.hid (BoxS.below FBW.out hb); have HAw1 := Lib.hid (HAW.out.below hb); have HDw1 := Lib.hid (HDW.out.below hb)
        clear hb HBW FNW FAW FBW HAW HDW
        obtain ⟨b0, b1, b2⟩ := FNw1.out.cells
        obtain ⟨s0, s1, s2, s3, s4, s5⟩ := FAw1.out.cells
        obtain ⟨q0, q1, q2, q3, q4, q5⟩ := FBw1.out.cells
        go_wp2_with fail
        clear b0 b1 b2 s0 s1 s2 s3 s4 s5 q0 q1 q2 q3 q4 q5
        refine (HIB.out w1 HAw1.out HDw1.out).mono ?_; rintro e w2 ⟨rfl, hb⟩
        have HBw2 := Lib.hid (HBw1.out.trans (hb.mono (Nat.le_of_lt FNw1.out.lt)))
        have FNw2 := Lib.hid (FNw1.out.below hb); have FAw2 := Lib.hid (BoxS.below FAw1.out hb); have FBw2 := Lib.hid (BoxS.below FBw1.out hb); have HAw2 := Lib.hid (HAw1.out.below hb); have HDw2 := Lib.hid (HDw1.out.below hb)
        clear hb HBw1 FNw1 FAw1 FBw1 HAw1 HDw1
        obtain ⟨b0, b1, b2⟩ := FNw2.out.cells
        obtain ⟨s0, s1, s2, s3, s4, s5⟩ := FAw2.out.cells
        obtain ⟨q0, q1, q2, q3, q4, q5⟩ := FBw2.out.cells
        go_wp2_with fail
        clear b0 b1 b2 s0 s1 s2 s3 s4 s5 q0 q1 q2 q3 q4 q5
        refine (HCM.out w2).mono ?_; rintro e w3 ⟨rfl, hb⟩
        have HBw3 := Lib.hid (HBw2.out.trans (hb.mono (Nat.le_of_lt FNw2.out.lt)))
        have FNw3 := Lib.hid (FNw2.out.below hb); have FAw3 := Lib.hid (BoxS.below FAw2.out hb); have FBw3 := Lib.hid (BoxS.below FBw2.out hb); have HAw3 := Lib.hid (HAw2.out.below hb); have HDw3 := Lib.hid (HDw2.out.below hb)
        clear hb HBw2 FNw2 FAw2 FBw2 HAw2 HDw2
        obtain ⟨b0, b1, b2⟩ := FNw3.out.cells
        obtain ⟨s0, s1, s2, s3, s4, s5⟩ := FAw3.out.cells
        obtain ⟨q0, q1, q2, q3, q4, q5⟩ := FBw3.out.cells
        go_wp2
        go_ret
        exact ⟨ret_bool HV.out.symm, by rw [HBE.out]; exact HBw3.out⟩
      have HV := Lib.hid (HV0.out.trans (HVE.out k4 q0)); clear HVS HVE HV0 k4
      have HF := Lib.hid (show (k == 3) = false ∨ ((k == 3) = true ∧ (k' == 2) = false) ∨ ((k == 3) = true ∧ (k' == 2) = true ∧ (g == g' && d == d') = false) by
        by_cases e3 : k = 3
        · by_cases e2 : k' = 2
          · refine .inr (.inr ⟨by simp [e3], by simp [e2], ?_⟩)
            cases e : (g == g' && d == d') with
            | false => rfl
            | true => simp only [Bool.and_eq_true, beq_iff_eq] at e; exact absurd ⟨e3, e2, e.1, e.2⟩ q0
          · exact .inr (.inl ⟨by simp [e3], by simp [e2]⟩)
        · exact .inl (by simp [e3]))
      clear q0
      go_enter Tryz.func48, Tryz.ntmps48
      go_wp2_with fail
      generalize hB : w.heap.size = B at *
      have HBE := Lib.hid hB; clear hB
      generalize ((w.alloc (.cells #[.slice A l.length ca, .slice D zs.length cd, .int .i64 x] 27)).alloc (.cells #[.int .i64 h, .int .i64 a, .int .i64 k, .string p, .int .i64 g, .int .i64 d] 34)).alloc (.cells #[.int .i64 h', .int .i64 a', .int .i64 k', .string p', .int .i64 g', .int .i64 d'] 34) = W at *
      obtain ⟨h1, h2, h3, h4, h5⟩ := H3.out
      have FNW := Lib.hid (show Box3 27 W B (.slice A l.length ca) (.slice D zs.length cd) (.int .i64 x) from h1)
      have FAW := Lib.hid (show BoxS 34 W (B + 1) _ _ _ _ _ _ from h2); have FBW := Lib.hid (show BoxS 34 W (B + 2) _ _ _ _ _ _ from h3)
      have HBW := Lib.hid h4; have HAW := HA; have HDW := HD
      clear h1 h2 h3 h4 h5 H3 HA HD
      refine (HIA.out W HAW.out HDW.out).mono ?_; rintro e w1 ⟨rfl, hb⟩
      have HBw1 := Lib.hid (HBW.out.trans (hb.mono (Nat.le_of_lt FNW.out.lt)))
      have FNw1 := Lib.hid (FNW.out.below hb); have FAw1 := Lib.hid (BoxS.below FAW.out hb); have FBw1 := Lib.hid (BoxS.below FBW.out hb); have HAw1 := Lib.hid (HAW.out.below hb); have HDw1 := Lib.hid (HDW.out.below hb)
      clear hb HBW FNW FAW FBW HAW HDW
      obtain ⟨b0, b1, b2⟩ := FNw1.out.cells
      obtain ⟨s0, s1, s2, s3, s4, s5⟩ := FAw1.out.cells
      obtain ⟨q0, q1, q2, q3, q4, q5⟩ := FBw1.out.cells
      go_wp2_with fail
      clear b0 b1 b2 s0 s1 s2 s3 s4 s5 q0 q1 q2 q3 q4 q5
      refine (HIB.out w1 HAw1.out HDw1.out).mono ?_; rintro e w2 ⟨rfl, hb⟩
      have HBw2 := Lib.hid (HBw1.out.trans (hb.mono (Nat.le_of_lt FNw1.out.lt)))
      have FNw2 := Lib.hid (FNw1.out.below hb); have FAw2 := Lib.hid (BoxS.below FAw1.out hb); have FBw2 := Lib.hid (BoxS.below FBw1.out hb); have HAw2 := Lib.hid (HAw1.out.below hb); have HDw2 := Lib.hid (HDw1.out.below hb)
      clear hb HBw1 FNw1 FAw1 FBw1 HAw1 HDw1
      obtain ⟨b0, b1, b2⟩ := FNw2.out.cells
      obtain ⟨s0, s1, s2, s3, s4, s5⟩ := FAw2.out.cells
      obtain ⟨q0, q1, q2, q3, q4, q5⟩ := FBw2.out.cells
      go_wp2_with fail
      clear b0 b1 b2 s0 s1 s2 s3 s4 s5 q0 q1 q2 q3 q4 q5
      refine (HCM.out w2).mono ?_; rintro e w3 ⟨rfl, hb⟩
      have HBw3 := Lib.hid (HBw2.out.trans (hb.mono (Nat.le_of_lt FNw2.out.lt)))
      have FNw3 := Lib.hid (FNw2.out.below hb); have FAw3 := Lib.hid (BoxS.below FAw2.out hb); have FBw3 := Lib.hid (BoxS.below FBw2.out hb); have HAw3 := Lib.hid (HAw2.out.below hb); have HDw3 := Lib.hid (HDw2.out.below hb)
      clear hb HBw2 FNw2 FAw2 FBw2 HAw2 HDw2
      obtain ⟨b0, b1, b2⟩ := FNw3.out.cells
      obtain ⟨s0, s1, s2, s3, s4, s5⟩ := FAw3.out.cells
      obtain ⟨q0, q1, q2, q3, q4, q5⟩ := FBw3.out.cells
      go_upto_region 3 with (fail)
      go_cut [51] from 9 (fun v wx => v = .bool false ∧ w3 = wx)
      case first =>
        rcases HF.out with t3 | ⟨t3, t2⟩ | ⟨t3, t2, tq⟩
        · clear hEQ
          go_wp2
          go_meet
          exact ⟨rfl, rfl⟩
        · clear hEQ
          go_wp2
          go_meet
          exact ⟨rfl, rfl⟩
        · rw [tq] at hEQ
          clear tq
          go_wp2
          go_meet
          exact ⟨rfl, rfl⟩
      case rest =>
        obtain ⟨rfl, rfl⟩ := hcut
        clear hEQ t4 t1 e2 e3 HF
        go_wp2_with fail
        clear b0 b1 b2 s0 s1 s2 s3 s4 s5 q0 q1 q2 q3 q4 q5
        refine (HBF.out w3 HAw3.out HDw3.out).mono ?_; rintro e w4 ⟨rfl, hb⟩
        have HBw4 := Lib.hid (HBw3.out.trans (hb.mono (Nat.le_of_lt FNw3.out.lt)))
        have FNw4 := Lib.hid (FNw3.out.below hb); have FAw4 := Lib.hid (BoxS.below FAw3.out hb); have FBw4 := Lib.hid (BoxS.below FBw3.out hb); have HAw4 := Lib.hid (HAw3.out.below hb); have HDw4 := Lib.hid (HDw3.out.below hb)
        clear hb HBw3 FNw3 FAw3 FBw3 HAw3 HDw3
        have FS := Lib.hid (Box2.new (T := 115) (v0 := .string FP) (v1 := .int .i64 FT) w4)
        have hb := (Below.refl w4.heap.size w4).alloc (Nat.le_refl _) (.cells #[.string FP, .int .i64 FT] 115)
        have HBw5 := Lib.hid (HBw4.out.trans (hb.mono (Nat.le_of_lt FNw4.out.lt)))
        have FNw5 := Lib.hid (FNw4.out.below hb); have FAw5 := Lib.hid (BoxS.below FAw4.out hb); have FBw5 := Lib.hid (BoxS.below FBw4.out hb); have HAw5 := Lib.hid (HAw4.out.below hb); have HDw5 := Lib.hid (HDw4.out.below hb)
        clear hb HBw4 FNw4 FAw4 FBw4 HAw4 HDw4
        obtain ⟨b0, b1, b2⟩ := FNw5.out.cells
        obtain ⟨s0, s1, s2, s3, s4, s5⟩ := FAw5.out.cells
        obtain ⟨q0, q1, q2, q3, q4, q5⟩ := FBw5.out.cells
        obtain ⟨y0, y1⟩ := FS.out.cells
        go_wp2_with fail
        clear b0 b1 b2 s0 s1 s2 s3 s4 s5 q0 q1 q2 q3 q4 q5
        clear y0 y1
        generalize w4.heap.size = Y at *
        generalize w4.alloc (.cells #[.string FP, .int .i64 FT] 115) = w5 at *
        obtain ⟨b0, b1, b2⟩ := FNw5.out.cells
        obtain ⟨s0, s1, s2, s3, s4, s5⟩ := FAw5.out.cells
        obtain ⟨q0, q1, q2, q3, q4, q5⟩ := FBw5.out.cells
        obtain ⟨y0, y1⟩ := FS.out.cells
        have hW0 := FNw5.out.lt; have hW1 := BoxS.lt FAw5.out; have hWY := FS.out.lt
        have HF0 := far_cell hW0 b0; have HF1 := far_cell hW0 b1; have HF2 := far_cell hW0 b2
        have HS0 := far_cell hW1 s0; have HS1 := far_cell hW1 s1; have HS2 := far_cell hW1 s2; have HS3 := far_cell hW1 s3; have HS4 := far_cell hW1 s4; have HS5 := far_cell hW1 s5
        have HY0 := far_cell hWY y0
        have HBHF := Lib.hid (fun x' => HBH.out (far w5 x') (HAw5.out.below (below_far w5 x')) (HDw5.out.below (below_far w5 x')))
        have HREF := Lib.hid (fun x' => HRE.out (far w5 x') (HAw5.out.below (below_far w5 x')) (HDw5.out.below (below_far w5 x')))
        refine wp_region_far (by kernel_rfl) (by kernel_rfl) ?_
        repeat (any_goals (first | go_big_quiet_step ((first | (go_at_call 94; with_reducible exact call_far (HBHF.out _)) | (go_at_call 93; with_reducible exact call_far (HREF.out _)))) | quiet_step ((first | (go_at_call 94; with_reducible exact call_far (HBHF.out _)) | (go_at_call 93; with_reducible exact call_far (HREF.out _))))))
        refine wpQuiet_nil ?_; intro w6 hw6
        have hbw6 : Below w5.heap.size w5 w6 := by obtain ⟨u, rfl⟩ := hw6; exact below_far w5 u
        clear hw6 HF0 HF1 HF2 HS0 HS1 HS2 HS3 HS4 HS5 HY0
        have z1 := (hbw6.cell (p := ⟨Y, 1, none⟩) hWY).trans y1
        have HB6 := Lib.hid (HBw5.out.trans (hbw6.mono (Nat.le_of_lt hW0)))
        clear y0 y1 hbw6 HBH HRE HBHF HREF
        clear b0 b1 b2 s0 s1 s2 s3 s4 s5 q0 q1 q2 q3 q4 q5
        rw [HRB.out]
        rcases HEB.out with rfl | ⟨hE0, hE1⟩
        · have HVF := Lib.hid (HV.out.trans (show _ = false by rfl))
          go_wp2
          go_ret
          exact ⟨ret_bool HVF.out.symm, by rw [HBE.out]; exact HB6.out⟩
        · have HVF := Lib.hid (HV.out.trans (show _ = decide (E ≤ FT) by rw [decide_eq_true hE0, Bool.true_and]))
          go_wp2
          go_ret
          exact ⟨ret_bool HVF.out.symm, by rw [HBE.out]; exact HB6.out⟩
end Go.Proofs.YtamlbiagjipedaaGreat
