/- The contracts of PlaceOf, both texts. Written by mk/spots.py. -/
import Derived.Test.YtamlbiagjipedaaGreatSpM
import Derived.Test.YtamlbiagjipedaaGreatIsScS
namespace Go.Proofs.YtamlbiagjipedaaGreat
open Go.RowKit
set_option maxRecDepth 100000 in
set_option maxHeartbeats 4000000 in
theorem place_of (h a k : Int) (p : ByteArray) (g d : Int) (A : Option Addr) (ca : Nat) (l : List Lg) (D : Option Addr) (cd : Nat) (zs : List Int) (x : Int) (w : World) (hA : InK 6 lgC w A l) (hD : IntsIn w D zs) (hs : ∀ z ∈ l, z.f.size ≤ maxLen ∧ z.t.size ≤ maxLen) (hn : l.length ≤ 1048576) (hm : zs.length ≤ 1048576) :
    Calls Tryz.prog 159 #[.agg #[.slice A l.length ca, .slice D zs.length cd, .int .i64 x], .agg #[.int .i64 h, .int .i64 a, .int .i64 k, .string p, .int .i64 g, .int .i64 d]] w fun e w' => e = .returned (.string (placeSc l zs x ⟨h, a, k, p, g, d⟩)) ∧ Below w.heap.size w w' := by
  have H2 := Lib.hid (two w (.cells #[.slice A l.length ca, .slice D zs.length cd, .int .i64 x] 27) (.cells #[.int .i64 h, .int .i64 a, .int .i64 k, .string p, .int .i64 g, .int .i64 d] 34))
  have HA := Lib.hid (hA.below H2.out.2.2.1); have HD := Lib.hid (hD.below H2.out.2.2.1); clear hA hD
  have HI := Lib.hid (fun W (h1 : InK 6 lgC W A l) (h2 : IntsIn W D zs) => is_sc h a k p g d A ca l D cd zs x W h1 h2 hs hn hm)
  clear hs
  cases hsc : scB l zs x ⟨h, a, k, p, g, d⟩ with
  | false =>
    have HV := Lib.hid (place_no hsc)
    rw [hsc] at HI; clear hsc
    go_enter Tryz.func159, Tryz.ntmps159
    go_wp2_with fail
    generalize hB : w.heap.size = B at *
    have HBE := Lib.hid hB; clear hB
    generalize (w.alloc (.cells #[.slice A l.length ca, .slice D zs.length cd, .int .i64 x] 27)).alloc (.cells #[.int .i64 h, .int .i64 a, .int .i64 k, .string p, .int .i64 g, .int .i64 d] 34) = W at *
    obtain ⟨h1, h2, h3, h4⟩ := H2.out
    have hBn := Box3.cells (show Box3 27 W B _ _ _ from h1)
    obtain ⟨b0, b1, b2⟩ := hBn
    obtain ⟨s0, s1, s2, s3, s4, s5⟩ := row6 h2
    have HB0 := Lib.hid h3
    have hW0 : B < W.heap.size := by omega
    have hW1 : B + 1 < W.heap.size := by omega
    clear h1 h2 h3
    refine (HI.out W HA.out HD.out).mono ?_; rintro e w1 ⟨rfl, hb1⟩
    have HB1 := Lib.hid (HB0.out.trans (hb1.mono (by omega)))
    have e0 := (hb1.cell (p := ⟨B, 0, none⟩) hW0).trans b0; have e1 := (hb1.cell (p := ⟨B, 1, none⟩) hW0).trans b1; have e2 := (hb1.cell (p := ⟨B, 2, none⟩) hW0).trans b2
    have f0 := (hb1.cell (p := ⟨B + 1, 0, none⟩) hW1).trans s0; have f1 := (hb1.cell (p := ⟨B + 1, 1, none⟩) hW1).trans s1; have f2 := (hb1.cell (p := ⟨B + 1, 2, none⟩) hW1).trans s2; have f3 := (hb1.cell (p := ⟨B + 1, 3, none⟩) hW1).trans s3; have f4 := (hb1.cell (p := ⟨B + 1, 4, none⟩) hW1).trans s4; have f5 := (hb1.cell (p := ⟨B + 1, 5, none⟩) hW1).trans s5
    have HA1 := Lib.hid (HA.out.below hb1); have HD1 := Lib.hid (HD.out.below hb1)
    have hX0 : B < w1.heap.size := by have := hb1.size; omega
    have hX1 : B + 1 < w1.heap.size := by have := hb1.size; omega
    clear b0 b1 b2 s0 s1 s2 s3 s4 s5 hb1 HA HD HB0 H2
    go_wp2
    go_ret
    exact ⟨by rw [HV.out]; first | done | rfl, by rw [HBE.out]; exact HB1.out⟩
  | true =>
    have hkd := sc_kind hsc
    dsimp only at hkd
    rcases hkd with hk1 | hk2 | hk3 | hk4
    · skip
      have t0 : (k == 3) = false := by simp [hk1]
      have t1 : (k == 2) = false := by simp [hk1]
      have HV := Lib.hid (place_here hsc (by dsimp only; omega) (by dsimp only; omega)); dsimp only at HV
      rw [hsc] at HI; clear hsc hk1
      go_enter Tryz.func159, Tryz.ntmps159
      go_wp2_with fail
      generalize hB : w.heap.size = B at *
      have HBE := Lib.hid hB; clear hB
      generalize (w.alloc (.cells #[.slice A l.length ca, .slice D zs.length cd, .int .i64 x] 27)).alloc (.cells #[.int .i64 h, .int .i64 a, .int .i64 k, .string p, .int .i64 g, .int .i64 d] 34) = W at *
      obtain ⟨h1, h2, h3, h4⟩ := H2.out
      have hBn := Box3.cells (show Box3 27 W B _ _ _ from h1)
      obtain ⟨b0, b1, b2⟩ := hBn
      obtain ⟨s0, s1, s2, s3, s4, s5⟩ := row6 h2
      have HB0 := Lib.hid h3
      have hW0 : B < W.heap.size := by omega
      have hW1 : B + 1 < W.heap.size := by omega
      clear h1 h2 h3
      refine (HI.out W HA.out HD.out).mono ?_; rintro e w1 ⟨rfl, hb1⟩
      have HB1 := Lib.hid (HB0.out.trans (hb1.mono (by omega)))
      have e0 := (hb1.cell (p := ⟨B, 0, none⟩) hW0).trans b0; have e1 := (hb1.cell (p := ⟨B, 1, none⟩) hW0).trans b1; have e2 := (hb1.cell (p := ⟨B, 2, none⟩) hW0).trans b2
      have f0 := (hb1.cell (p := ⟨B + 1, 0, none⟩) hW1).trans s0; have f1 := (hb1.cell (p := ⟨B + 1, 1, none⟩) hW1).trans s1; have f2 := (hb1.cell (p := ⟨B + 1, 2, none⟩) hW1).trans s2; have f3 := (hb1.cell (p := ⟨B + 1, 3, none⟩) hW1).trans s3; have f4 := (hb1.cell (p := ⟨B + 1, 4, none⟩) hW1).trans s4; have f5 := (hb1.cell (p := ⟨B + 1, 5, none⟩) hW1).trans s5
      have HA1 := Lib.hid (HA.out.below hb1); have HD1 := Lib.hid (HD.out.below hb1)
      have hX0 : B < w1.heap.size := by have := hb1.size; omega
      have hX1 : B + 1 < w1.heap.size := by have := hb1.size; omega
      clear b0 b1 b2 s0 s1 s2 s3 s4 s5 hb1 HA HD HB0 H2
      go_wp2
      go_ret
      exact ⟨by rw [HV.out]; first | done | rfl, by rw [HBE.out]; exact HB1.out⟩
    · skip
      have t0 : (k == 3) = false := by simp [hk2]
      have t1 : (k == 2) = true := by simp [hk2]
      have htr := sc_trip (l := l) (zs := zs) (x := x) (r := ⟨h, a, k, p, g, d⟩) hsc (by dsimp only; omega)
      obtain ⟨_, _, kk, hgk, hkk, hlg, _, _, _, _⟩ := trB_of htr
      dsimp only at hgk hlg
      subst hgk
      have HV := Lib.hid (place_drop hsc (by dsimp only; omega)); dsimp only at HV; rw [hlg] at HV
      rw [hsc] at HI; clear hsc hk2 htr hlg
      go_enter Tryz.func159, Tryz.ntmps159
      go_wp2_with fail
      generalize hB : w.heap.size = B at *
      have HBE := Lib.hid hB; clear hB
      generalize (w.alloc (.cells #[.slice A l.length ca, .slice D zs.length cd, .int .i64 x] 27)).alloc (.cells #[.int .i64 h, .int .i64 a, .int .i64 k, .string p, .int .i64 (kk : Int), .int .i64 d] 34) = W at *
      obtain ⟨h1, h2, h3, h4⟩ := H2.out
      have hBn := Box3.cells (show Box3 27 W B _ _ _ from h1)
      obtain ⟨b0, b1, b2⟩ := hBn
      obtain ⟨s0, s1, s2, s3, s4, s5⟩ := row6 h2
      have HB0 := Lib.hid h3
      have hW0 : B < W.heap.size := by omega
      have hW1 : B + 1 < W.heap.size := by omega
      clear h1 h2 h3
      refine (HI.out W HA.out HD.out).mono ?_; rintro e w1 ⟨rfl, hb1⟩
      have HB1 := Lib.hid (HB0.out.trans (hb1.mono (by omega)))
      have e0 := (hb1.cell (p := ⟨B, 0, none⟩) hW0).trans b0; have e1 := (hb1.cell (p := ⟨B, 1, none⟩) hW0).trans b1; have e2 := (hb1.cell (p := ⟨B, 2, none⟩) hW0).trans b2
      have f0 := (hb1.cell (p := ⟨B + 1, 0, none⟩) hW1).trans s0; have f1 := (hb1.cell (p := ⟨B + 1, 1, none⟩) hW1).trans s1; have f2 := (hb1.cell (p := ⟨B + 1, 2, none⟩) hW1).trans s2; have f3 := (hb1.cell (p := ⟨B + 1, 3, none⟩) hW1).trans s3; have f4 := (hb1.cell (p := ⟨B + 1, 4, none⟩) hW1).trans s4; have f5 := (hb1.cell (p := ⟨B + 1, 5, none⟩) hW1).trans s5
      have HA1 := Lib.hid (HA.out.below hb1); have HD1 := Lib.hid (HD.out.below hb1)
      have hX0 : B < w1.heap.size := by have := hb1.size; omega
      have hX1 : B + 1 < w1.heap.size := by have := hb1.size; omega
      clear b0 b1 b2 s0 s1 s2 s3 s4 s5 hb1 HA HD HB0 H2
      obtain ⟨gl, rfl, hgl, l0, l1, l2, l3, l4, l5⟩ := HA1.out.lg kk hkk
      have hki : (kk : Int) < (l.length : Int) := by omega
      have hk0 : ¬ (kk : Int) < 0 := by omega
      obtain ⟨q, hq⟩ : ∃ q, q = l[kk] := ⟨_, rfl⟩
      rw [← hq] at l0 l1 l2 l3 l4 l5 HV
      clear hq
      go_wp2
      go_ret
      exact ⟨by rw [HV.out]; first | done | rfl, by rw [HBE.out]; exact HB1.out⟩
    · skip
      have t0 : (k == 3) = true := by simp [hk3]
      have htr := sc_trip (l := l) (zs := zs) (x := x) (r := ⟨h, a, k, p, g, d⟩) hsc (by dsimp only; omega)
      obtain ⟨_, _, kk, hgk, hkk, hlg, _, _, _, _⟩ := trB_of htr
      dsimp only at hgk hlg
      subst hgk
      have HV := Lib.hid (place_load hsc (by dsimp only; omega)); dsimp only at HV; rw [hlg] at HV
      rw [hsc] at HI; clear hsc hk3 htr hlg
      go_enter Tryz.func159, Tryz.ntmps159
      go_wp2_with fail
      generalize hB : w.heap.size = B at *
      have HBE := Lib.hid hB; clear hB
      generalize (w.alloc (.cells #[.slice A l.length ca, .slice D zs.length cd, .int .i64 x] 27)).alloc (.cells #[.int .i64 h, .int .i64 a, .int .i64 k, .string p, .int .i64 (kk : Int), .int .i64 d] 34) = W at *
      obtain ⟨h1, h2, h3, h4⟩ := H2.out
      have hBn := Box3.cells (show Box3 27 W B _ _ _ from h1)
      obtain ⟨b0, b1, b2⟩ := hBn
      obtain ⟨s0, s1, s2, s3, s4, s5⟩ := row6 h2
      have HB0 := Lib.hid h3
      have hW0 : B < W.heap.size := by omega
      have hW1 : B + 1 < W.heap.size := by omega
      clear h1 h2 h3
      refine (HI.out W HA.out HD.out).mono ?_; rintro e w1 ⟨rfl, hb1⟩
      have HB1 := Lib.hid (HB0.out.trans (hb1.mono (by omega)))
      have e0 := (hb1.cell (p := ⟨B, 0, none⟩) hW0).trans b0; have e1 := (hb1.cell (p := ⟨B, 1, none⟩) hW0).trans b1; have e2 := (hb1.cell (p := ⟨B, 2, none⟩) hW0).trans b2
      have f0 := (hb1.cell (p := ⟨B + 1, 0, none⟩) hW1).trans s0; have f1 := (hb1.cell (p := ⟨B + 1, 1, none⟩) hW1).trans s1; have f2 := (hb1.cell (p := ⟨B + 1, 2, none⟩) hW1).trans s2; have f3 := (hb1.cell (p := ⟨B + 1, 3, none⟩) hW1).trans s3; have f4 := (hb1.cell (p := ⟨B + 1, 4, none⟩) hW1).trans s4; have f5 := (hb1.cell (p := ⟨B + 1, 5, none⟩) hW1).trans s5
      have HA1 := Lib.hid (HA.out.below hb1); have HD1 := Lib.hid (HD.out.below hb1)
      have hX0 : B < w1.heap.size := by have := hb1.size; omega
      have hX1 : B + 1 < w1.heap.size := by have := hb1.size; omega
      clear b0 b1 b2 s0 s1 s2 s3 s4 s5 hb1 HA HD HB0 H2
      obtain ⟨gl, rfl, hgl, l0, l1, l2, l3, l4, l5⟩ := HA1.out.lg kk hkk
      have hki : (kk : Int) < (l.length : Int) := by omega
      have hk0 : ¬ (kk : Int) < 0 := by omega
      obtain ⟨q, hq⟩ : ∃ q, q = l[kk] := ⟨_, rfl⟩
      rw [← hq] at l0 l1 l2 l3 l4 l5 HV
      clear hq
      go_wp2
      go_ret
      exact ⟨by rw [HV.out]; first | done | rfl, by rw [HBE.out]; exact HB1.out⟩
    · skip
      have t0 : (k == 3) = false := by simp [hk4]
      have t1 : (k == 2) = false := by simp [hk4]
      have HV := Lib.hid (place_here hsc (by dsimp only; omega) (by dsimp only; omega)); dsimp only at HV
      rw [hsc] at HI; clear hsc hk4
      go_enter Tryz.func159, Tryz.ntmps159
      go_wp2_with fail
      generalize hB : w.heap.size = B at *
      have HBE := Lib.hid hB; clear hB
      generalize (w.alloc (.cells #[.slice A l.length ca, .slice D zs.length cd, .int .i64 x] 27)).alloc (.cells #[.int .i64 h, .int .i64 a, .int .i64 k, .string p, .int .i64 g, .int .i64 d] 34) = W at *
      obtain ⟨h1, h2, h3, h4⟩ := H2.out
      have hBn := Box3.cells (show Box3 27 W B _ _ _ from h1)
      obtain ⟨b0, b1, b2⟩ := hBn
      obtain ⟨s0, s1, s2, s3, s4, s5⟩ := row6 h2
      have HB0 := Lib.hid h3
      have hW0 : B < W.heap.size := by omega
      have hW1 : B + 1 < W.heap.size := by omega
      clear h1 h2 h3
      refine (HI.out W HA.out HD.out).mono ?_; rintro e w1 ⟨rfl, hb1⟩
      have HB1 := Lib.hid (HB0.out.trans (hb1.mono (by omega)))
      have e0 := (hb1.cell (p := ⟨B, 0, none⟩) hW0).trans b0; have e1 := (hb1.cell (p := ⟨B, 1, none⟩) hW0).trans b1; have e2 := (hb1.cell (p := ⟨B, 2, none⟩) hW0).trans b2
      have f0 := (hb1.cell (p := ⟨B + 1, 0, none⟩) hW1).trans s0; have f1 := (hb1.cell (p := ⟨B + 1, 1, none⟩) hW1).trans s1; have f2 := (hb1.cell (p := ⟨B + 1, 2, none⟩) hW1).trans s2; have f3 := (hb1.cell (p := ⟨B + 1, 3, none⟩) hW1).trans s3; have f4 := (hb1.cell (p := ⟨B + 1, 4, none⟩) hW1).trans s4; have f5 := (hb1.cell (p := ⟨B + 1, 5, none⟩) hW1).trans s5
      have HA1 := Lib.hid (HA.out.below hb1); have HD1 := Lib.hid (HD.out.below hb1)
      have hX0 : B < w1.heap.size := by have := hb1.size; omega
      have hX1 : B + 1 < w1.heap.size := by have := hb1.size; omega
      clear b0 b1 b2 s0 s1 s2 s3 s4 s5 hb1 HA HD HB0 H2
      go_wp2
      go_ret
      exact ⟨by rw [HV.out]; first | done | rfl, by rw [HBE.out]; exact HB1.out⟩
set_option maxRecDepth 100000 in
set_option maxHeartbeats 4000000 in
theorem place_of_spec (h a k : Int) (p : ByteArray) (g d : Int) (A : Option Addr) (ca : Nat) (l : List Lg) (D : Option Addr) (cd : Nat) (zs : List Int) (x : Int) (w : World) (hA : InK 6 lgC w A l) (hD : IntsIn w D zs) (hs : ∀ z ∈ l, z.f.size ≤ maxLen ∧ z.t.size ≤ maxLen) (hn : l.length ≤ 1048576) (hm : zs.length ≤ 1048576) :
    Calls Tryz.prog 136 #[.agg #[.slice A l.length ca, .slice D zs.length cd, .int .i64 x], .agg #[.int .i64 h, .int .i64 a, .int .i64 k, .string p, .int .i64 g, .int .i64 d]] w fun e w' => e = .returned (.string (placeSc l zs x ⟨h, a, k, p, g, d⟩)) ∧ Below w.heap.size w w' := by
  have H2 := Lib.hid (two w (.cells #[.slice A l.length ca, .slice D zs.length cd, .int .i64 x] 27) (.cells #[.int .i64 h, .int .i64 a, .int .i64 k, .string p, .int .i64 g, .int .i64 d] 34))
  have HA := Lib.hid (hA.below H2.out.2.2.1); have HD := Lib.hid (hD.below H2.out.2.2.1); clear hA hD
  have HI := Lib.hid (fun W (h1 : InK 6 lgC W A l) (h2 : IntsIn W D zs) => is_sc_spec h a k p g d A ca l D cd zs x W h1 h2 hs hn hm)
  clear hs
  cases hsc : scB l zs x ⟨h, a, k, p, g, d⟩ with
  | false =>
    have HV := Lib.hid (place_no hsc)
    rw [hsc] at HI; clear hsc
    go_enter Tryz.func136, Tryz.ntmps136
    go_wp2_with fail
    generalize hB : w.heap.size = B at *
    have HBE := Lib.hid hB; clear hB
    generalize (w.alloc (.cells #[.slice A l.length ca, .slice D zs.length cd, .int .i64 x] 27)).alloc (.cells #[.int .i64 h, .int .i64 a, .int .i64 k, .string p, .int .i64 g, .int .i64 d] 34) = W at *
    obtain ⟨h1, h2, h3, h4⟩ := H2.out
    have hBn := Box3.cells (show Box3 27 W B _ _ _ from h1)
    obtain ⟨b0, b1, b2⟩ := hBn
    obtain ⟨s0, s1, s2, s3, s4, s5⟩ := row6 h2
    have HB0 := Lib.hid h3
    have hW0 : B < W.heap.size := by omega
    have hW1 : B + 1 < W.heap.size := by omega
    clear h1 h2 h3
    refine (HI.out W HA.out HD.out).mono ?_; rintro e w1 ⟨rfl, hb1⟩
    have HB1 := Lib.hid (HB0.out.trans (hb1.mono (by omega)))
    have e0 := (hb1.cell (p := ⟨B, 0, none⟩) hW0).trans b0; have e1 := (hb1.cell (p := ⟨B, 1, none⟩) hW0).trans b1; have e2 := (hb1.cell (p := ⟨B, 2, none⟩) hW0).trans b2
    have f0 := (hb1.cell (p := ⟨B + 1, 0, none⟩) hW1).trans s0; have f1 := (hb1.cell (p := ⟨B + 1, 1, none⟩) hW1).trans s1; have f2 := (hb1.cell (p := ⟨B + 1, 2, none⟩) hW1).trans s2; have f3 := (hb1.cell (p := ⟨B + 1, 3, none⟩) hW1).trans s3; have f4 := (hb1.cell (p := ⟨B + 1, 4, none⟩) hW1).trans s4; have f5 := (hb1.cell (p := ⟨B + 1, 5, none⟩) hW1).trans s5
    have HA1 := Lib.hid (HA.out.below hb1); have HD1 := Lib.hid (HD.out.below hb1)
    have hX0 : B < w1.heap.size := by have := hb1.size; omega
    have hX1 : B + 1 < w1.heap.size := by have := hb1.size; omega
    clear b0 b1 b2 s0 s1 s2 s3 s4 s5 hb1 HA HD HB0 H2
    go_wp2
    go_ret
    exact ⟨by rw [HV.out]; first | done | rfl, by rw [HBE.out]; exact HB1.out⟩
  | true =>
    have hkd := sc_kind hsc
    dsimp only at hkd
    rcases hkd with hk1 | hk2 | hk3 | hk4
    · skip
      have t0 : (k == 3) = false := by simp [hk1]
      have t1 : (k == 2) = false := by simp [hk1]
      have HV := Lib.hid (place_here hsc (by dsimp only; omega) (by dsimp only; omega)); dsimp only at HV
      rw [hsc] at HI; clear hsc hk1
      go_enter Tryz.func136, Tryz.ntmps136
      go_wp2_with fail
      generalize hB : w.heap.size = B at *
      have HBE := Lib.hid hB; clear hB
      generalize (w.alloc (.cells #[.slice A l.length ca, .slice D zs.length cd, .int .i64 x] 27)).alloc (.cells #[.int .i64 h, .int .i64 a, .int .i64 k, .string p, .int .i64 g, .int .i64 d] 34) = W at *
      obtain ⟨h1, h2, h3, h4⟩ := H2.out
      have hBn := Box3.cells (show Box3 27 W B _ _ _ from h1)
      obtain ⟨b0, b1, b2⟩ := hBn
      obtain ⟨s0, s1, s2, s3, s4, s5⟩ := row6 h2
      have HB0 := Lib.hid h3
      have hW0 : B < W.heap.size := by omega
      have hW1 : B + 1 < W.heap.size := by omega
      clear h1 h2 h3
      refine (HI.out W HA.out HD.out).mono ?_; rintro e w1 ⟨rfl, hb1⟩
      have HB1 := Lib.hid (HB0.out.trans (hb1.mono (by omega)))
      have e0 := (hb1.cell (p := ⟨B, 0, none⟩) hW0).trans b0; have e1 := (hb1.cell (p := ⟨B, 1, none⟩) hW0).trans b1; have e2 := (hb1.cell (p := ⟨B, 2, none⟩) hW0).trans b2
      have f0 := (hb1.cell (p := ⟨B + 1, 0, none⟩) hW1).trans s0; have f1 := (hb1.cell (p := ⟨B + 1, 1, none⟩) hW1).trans s1; have f2 := (hb1.cell (p := ⟨B + 1, 2, none⟩) hW1).trans s2; have f3 := (hb1.cell (p := ⟨B + 1, 3, none⟩) hW1).trans s3; have f4 := (hb1.cell (p := ⟨B + 1, 4, none⟩) hW1).trans s4; have f5 := (hb1.cell (p := ⟨B + 1, 5, none⟩) hW1).trans s5
      have HA1 := Lib.hid (HA.out.below hb1); have HD1 := Lib.hid (HD.out.below hb1)
      have hX0 : B < w1.heap.size := by have := hb1.size; omega
      have hX1 : B + 1 < w1.heap.size := by have := hb1.size; omega
      clear b0 b1 b2 s0 s1 s2 s3 s4 s5 hb1 HA HD HB0 H2
      go_wp2
      go_ret
      exact ⟨by rw [HV.out]; first | done | rfl, by rw [HBE.out]; exact HB1.out⟩
    · skip
      have t0 : (k == 3) = false := by simp [hk2]
      have t1 : (k == 2) = true := by simp [hk2]
      have htr := sc_trip (l := l) (zs := zs) (x := x) (r := ⟨h, a, k, p, g, d⟩) hsc (by dsimp only; omega)
      obtain ⟨_, _, kk, hgk, hkk, hlg, _, _, _, _⟩ := trB_of htr
      dsimp only at hgk hlg
      subst hgk
      have HV := Lib.hid (place_drop hsc (by dsimp only; omega)); dsimp only at HV; rw [hlg] at HV
      rw [hsc] at HI; clear hsc hk2 htr hlg
      go_enter Tryz.func136, Tryz.ntmps136
      go_wp2_with fail
      generalize hB : w.heap.size = B at *
      have HBE := Lib.hid hB; clear hB
      generalize (w.alloc (.cells #[.slice A l.length ca, .slice D zs.length cd, .int .i64 x] 27)).alloc (.cells #[.int .i64 h, .int .i64 a, .int .i64 k, .string p, .int .i64 (kk : Int), .int .i64 d] 34) = W at *
      obtain ⟨h1, h2, h3, h4⟩ := H2.out
      have hBn := Box3.cells (show Box3 27 W B _ _ _ from h1)
      obtain ⟨b0, b1, b2⟩ := hBn
      obtain ⟨s0, s1, s2, s3, s4, s5⟩ := row6 h2
      have HB0 := Lib.hid h3
      have hW0 : B < W.heap.size := by omega
      have hW1 : B + 1 < W.heap.size := by omega
      clear h1 h2 h3
      refine (HI.out W HA.out HD.out).mono ?_; rintro e w1 ⟨rfl, hb1⟩
      have HB1 := Lib.hid (HB0.out.trans (hb1.mono (by omega)))
      have e0 := (hb1.cell (p := ⟨B, 0, none⟩) hW0).trans b0; have e1 := (hb1.cell (p := ⟨B, 1, none⟩) hW0).trans b1; have e2 := (hb1.cell (p := ⟨B, 2, none⟩) hW0).trans b2
      have f0 := (hb1.cell (p := ⟨B + 1, 0, none⟩) hW1).trans s0; have f1 := (hb1.cell (p := ⟨B + 1, 1, none⟩) hW1).trans s1; have f2 := (hb1.cell (p := ⟨B + 1, 2, none⟩) hW1).trans s2; have f3 := (hb1.cell (p := ⟨B + 1, 3, none⟩) hW1).trans s3; have f4 := (hb1.cell (p := ⟨B + 1, 4, none⟩) hW1).trans s4; have f5 := (hb1.cell (p := ⟨B + 1, 5, none⟩) hW1).trans s5
      have HA1 := Lib.hid (HA.out.below hb1); have HD1 := Lib.hid (HD.out.below hb1)
      have hX0 : B < w1.heap.size := by have := hb1.size; omega
      have hX1 : B + 1 < w1.heap.size := by have := hb1.size; omega
      clear b0 b1 b2 s0 s1 s2 s3 s4 s5 hb1 HA HD HB0 H2
      obtain ⟨gl, rfl, hgl, l0, l1, l2, l3, l4, l5⟩ := HA1.out.lg kk hkk
      have hki : (kk : Int) < (l.length : Int) := by omega
      have hk0 : ¬ (kk : Int) < 0 := by omega
      obtain ⟨q, hq⟩ : ∃ q, q = l[kk] := ⟨_, rfl⟩
      rw [← hq] at l0 l1 l2 l3 l4 l5 HV
      clear hq
      go_wp2
      go_ret
      exact ⟨by rw [HV.out]; first | done | rfl, by rw [HBE.out]; exact HB1.out⟩
    · skip
      have t0 : (k == 3) = true := by simp [hk3]
      have htr := sc_trip (l := l) (zs := zs) (x := x) (r := ⟨h, a, k, p, g, d⟩) hsc (by dsimp only; omega)
      obtain ⟨_, _, kk, hgk, hkk, hlg, _, _, _, _⟩ := trB_of htr
      dsimp only at hgk hlg
      subst hgk
      have HV := Lib.hid (place_load hsc (by dsimp only; omega)); dsimp only at HV; rw [hlg] at HV
      rw [hsc] at HI; clear hsc hk3 htr hlg
      go_enter Tryz.func136, Tryz.ntmps136
      go_wp2_with fail
      generalize hB : w.heap.size = B at *
      have HBE := Lib.hid hB; clear hB
      generalize (w.alloc (.cells #[.slice A l.length ca, .slice D zs.length cd, .int .i64 x] 27)).alloc (.cells #[.int .i64 h, .int .i64 a, .int .i64 k, .string p, .int .i64 (kk : Int), .int .i64 d] 34) = W at *
      obtain ⟨h1, h2, h3, h4⟩ := H2.out
      have hBn := Box3.cells (show Box3 27 W B _ _ _ from h1)
      obtain ⟨b0, b1, b2⟩ := hBn
      obtain ⟨s0, s1, s2, s3, s4, s5⟩ := row6 h2
      have HB0 := Lib.hid h3
      have hW0 : B < W.heap.size := by omega
      have hW1 : B + 1 < W.heap.size := by omega
      clear h1 h2 h3
      refine (HI.out W HA.out HD.out).mono ?_; rintro e w1 ⟨rfl, hb1⟩
      have HB1 := Lib.hid (HB0.out.trans (hb1.mono (by omega)))
      have e0 := (hb1.cell (p := ⟨B, 0, none⟩) hW0).trans b0; have e1 := (hb1.cell (p := ⟨B, 1, none⟩) hW0).trans b1; have e2 := (hb1.cell (p := ⟨B, 2, none⟩) hW0).trans b2
      have f0 := (hb1.cell (p := ⟨B + 1, 0, none⟩) hW1).trans s0; have f1 := (hb1.cell (p := ⟨B + 1, 1, none⟩) hW1).trans s1; have f2 := (hb1.cell (p := ⟨B + 1, 2, none⟩) hW1).trans s2; have f3 := (hb1.cell (p := ⟨B + 1, 3, none⟩) hW1).trans s3; have f4 := (hb1.cell (p := ⟨B + 1, 4, none⟩) hW1).trans s4; have f5 := (hb1.cell (p := ⟨B + 1, 5, none⟩) hW1).trans s5
      have HA1 := Lib.hid (HA.out.below hb1); have HD1 := Lib.hid (HD.out.below hb1)
      have hX0 : B < w1.heap.size := by have := hb1.size; omega
      have hX1 : B + 1 < w1.heap.size := by have := hb1.size; omega
      clear b0 b1 b2 s0 s1 s2 s3 s4 s5 hb1 HA HD HB0 H2
      obtain ⟨gl, rfl, hgl, l0, l1, l2, l3, l4, l5⟩ := HA1.out.lg kk hkk
      have hki : (kk : Int) < (l.length : Int) := by omega
      have hk0 : ¬ (kk : Int) < 0 := by omega
      obtain ⟨q, hq⟩ : ∃ q, q = l[kk] := ⟨_, rfl⟩
      rw [← hq] at l0 l1 l2 l3 l4 l5 HV
      clear hq
      go_wp2
      go_ret
      exact ⟨by rw [HV.out]; first | done | rfl, by rw [HBE.out]; exact HB1.out⟩
    · skip
      have t0 : (k == 3) = false := by simp [hk4]
      have t1 : (k == 2) = false := by simp [hk4]
      have HV := Lib.hid (place_here hsc (by dsimp only; omega) (by dsimp only; omega)); dsimp only at HV
      rw [hsc] at HI; clear hsc hk4
      go_enter Tryz.func136, Tryz.ntmps136
      go_wp2_with fail
      generalize hB : w.heap.size = B at *
      have HBE := Lib.hid hB; clear hB
      generalize (w.alloc (.cells #[.slice A l.length ca, .slice D zs.length cd, .int .i64 x] 27)).alloc (.cells #[.int .i64 h, .int .i64 a, .int .i64 k, .string p, .int .i64 g, .int .i64 d] 34) = W at *
      obtain ⟨h1, h2, h3, h4⟩ := H2.out
      have hBn := Box3.cells (show Box3 27 W B _ _ _ from h1)
      obtain ⟨b0, b1, b2⟩ := hBn
      obtain ⟨s0, s1, s2, s3, s4, s5⟩ := row6 h2
      have HB0 := Lib.hid h3
      have hW0 : B < W.heap.size := by omega
      have hW1 : B + 1 < W.heap.size := by omega
      clear h1 h2 h3
      refine (HI.out W HA.out HD.out).mono ?_; rintro e w1 ⟨rfl, hb1⟩
      have HB1 := Lib.hid (HB0.out.trans (hb1.mono (by omega)))
      have e0 := (hb1.cell (p := ⟨B, 0, none⟩) hW0).trans b0; have e1 := (hb1.cell (p := ⟨B, 1, none⟩) hW0).trans b1; have e2 := (hb1.cell (p := ⟨B, 2, none⟩) hW0).trans b2
      have f0 := (hb1.cell (p := ⟨B + 1, 0, none⟩) hW1).trans s0; have f1 := (hb1.cell (p := ⟨B + 1, 1, none⟩) hW1).trans s1; have f2 := (hb1.cell (p := ⟨B + 1, 2, none⟩) hW1).trans s2; have f3 := (hb1.cell (p := ⟨B + 1, 3, none⟩) hW1).trans s3; have f4 := (hb1.cell (p := ⟨B + 1, 4, none⟩) hW1).trans s4; have f5 := (hb1.cell (p := ⟨B + 1, 5, none⟩) hW1).trans s5
      have HA1 := Lib.hid (HA.out.below hb1); have HD1 := Lib.hid (HD.out.below hb1)
      have hX0 : B < w1.heap.size := by have := hb1.size; omega
      have hX1 : B + 1 < w1.heap.size := by have := hb1.size; omega
      clear b0 b1 b2 s0 s1 s2 s3 s4 s5 hb1 HA HD HB0 H2
      go_wp2
      go_ret
      exact ⟨by rw [HV.out]; first | done | rfl, by rw [HBE.out]; exact HB1.out⟩
end Go.Proofs.YtamlbiagjipedaaGreat
