/- The contracts of SpotBehind, both texts. Written by mk/spots.py. -/
import Derived.Test.YtamlbiagjipedaaGreatPlSc
import Derived.Test.YtamlbiagjipedaaGreatBc
namespace Go.Proofs.YtamlbiagjipedaaGreat
open Go.RowKit
set_option maxRecDepth 100000 in
set_option maxHeartbeats 4000000 in
theorem behind_impl (h a k : Int) (p : ByteArray) (g d : Int) (A : Option Addr) (ca : Nat) (l : List Lg) (D : Option Addr) (cd : Nat) (zs : List Int) (x : Int) (w : World) (hA : InK 6 lgC w A l) (hD : IntsIn w D zs) (hs : ∀ z ∈ l, z.f.size ≤ maxLen ∧ z.t.size ≤ maxLen) (hn : l.length ≤ 1048576) (hm : zs.length ≤ 1048576) :
    Calls Tryz.prog 115 #[.agg #[.slice A l.length ca, .slice D zs.length cd, .int .i64 x], .agg #[.int .i64 h, .int .i64 a, .int .i64 k, .string p, .int .i64 g, .int .i64 d]] w fun e w' => e = .returned (.agg #[.string (behP l zs x ⟨h, a, k, p, g, d⟩), .int .i64 (behA l zs x ⟨h, a, k, p, g, d⟩)]) ∧ Below w.heap.size w w' := by
  have H3 := Lib.hid (three w (.cells #[.slice A l.length ca, .slice D zs.length cd, .int .i64 x] 27) (.cells #[.int .i64 h, .int .i64 a, .int .i64 k, .string p, .int .i64 g, .int .i64 d] 34) (.cells #[.string ⟨#[]⟩, .int .i64 0] 115))
  have HAW := Lib.hid hA; have HA := Lib.hid (hA.below H3.out.2.2.2.1); have HD := Lib.hid (hD.below H3.out.2.2.2.1); clear hA hD
  have HI := Lib.hid (fun W (h1 : InK 6 lgC W A l) (h2 : IntsIn W D zs) => is_sc h a k p g d A ca l D cd zs x W h1 h2 hs hn hm)
  have HPL := Lib.hid (fun W (h1 : InK 6 lgC W A l) (h2 : IntsIn W D zs) => place_of h a k p g d A ca l D cd zs x W h1 h2 hs hn hm)
  have HTC := Lib.hid (fun (htr : trB l zs x ⟨g, d⟩ = true) W (h1 : InK 6 lgC W A l) (h2 : IntsIn W D zs) => end_tp_impl ⟨g, d⟩ htr A ca D cd W h1 h2 hn)
  clear hs
  cases hsc : scB l zs x ⟨h, a, k, p, g, d⟩ with
  | false =>
    have HV := Lib.hid (beh_no hsc)
    rw [hsc] at HI; clear hsc HTC HPL
    go_enter Tryz.func115, Tryz.ntmps115
    go_wp2_with fail
    generalize hB : w.heap.size = B at *
    have HBE := Lib.hid hB; clear hB
    generalize ((w.alloc (.cells #[.slice A l.length ca, .slice D zs.length cd, .int .i64 x] 27)).alloc (.cells #[.int .i64 h, .int .i64 a, .int .i64 k, .string p, .int .i64 g, .int .i64 d] 34)).alloc (.cells #[.string ⟨#[]⟩, .int .i64 0] 115) = W at *
    obtain ⟨h1, h2, h3, h4, h5⟩ := H3.out
    obtain ⟨b0, b1, b2⟩ := Box3.cells (show Box3 27 W B _ _ _ from h1)
    obtain ⟨s0, s1, s2, s3, s4, s5⟩ := row6 h2
    have HZ := Lib.hid (show Box2 115 W (B + 2) (.string ⟨#[]⟩) (.int .i64 0) from h3)
    have HB0 := Lib.hid h4
    have hW0 : B < W.heap.size := by omega
    have hW1 : B + 1 < W.heap.size := by omega
    clear h1 h2 h3 h4
    refine (HI.out W HA.out HD.out).mono ?_; rintro e w1 ⟨rfl, hb1⟩
    have HB1 := Lib.hid (HB0.out.trans (hb1.mono (by omega)))
    have e0 := (hb1.cell (p := ⟨B, 0, none⟩) hW0).trans b0; have e1 := (hb1.cell (p := ⟨B, 1, none⟩) hW0).trans b1; have e2 := (hb1.cell (p := ⟨B, 2, none⟩) hW0).trans b2
    have f0 := (hb1.cell (p := ⟨B + 1, 0, none⟩) hW1).trans s0; have f1 := (hb1.cell (p := ⟨B + 1, 1, none⟩) hW1).trans s1; have f2 := (hb1.cell (p := ⟨B + 1, 2, none⟩) hW1).trans s2; have f3 := (hb1.cell (p := ⟨B + 1, 3, none⟩) hW1).trans s3; have f4 := (hb1.cell (p := ⟨B + 1, 4, none⟩) hW1).trans s4; have f5 := (hb1.cell (p := ⟨B + 1, 5, none⟩) hW1).trans s5
    have HA1 := Lib.hid (HA.out.below hb1); have HD1 := Lib.hid (HD.out.below hb1)
    have hX0 : B < w1.heap.size := by have := hb1.size; omega
    have hX1 : B + 1 < w1.heap.size := by have := hb1.size; omega
    have HZ1 := Lib.hid (HZ.out.below hb1)
    have hX2 : B + 2 < w1.heap.size := by have := hb1.size; omega
    clear b0 b1 b2 s0 s1 s2 s3 s4 s5 hb1 HA HD HB0 H3 HZ h5
    obtain ⟨r0, r1⟩ := HZ1.out.cells
    obtain ⟨z0, z1⟩ := HZ1.out.free
    have hne0 : ¬ B + 1 + 1 = B := by omega
    go_wp2
    refine bodyPost_ret (v := .agg #[.string ⟨#[]⟩, .int .i64 0]) (by simp [results, Tryz.results115, go_sem, r0, r1]) rfl ⟨by rw [HV.out.1, HV.out.2], ?_⟩
    rw [HBE.out]
    exact (HB1.out.setCell (by dsimp only; omega) _).setCell (by dsimp only; omega) _
  | true =>
    have hkd := sc_kind hsc
    dsimp only at hkd
    rcases hkd with hk1 | hk2 | hk3 | hk4
    · skip
      have t0 : (k == 3) = false := by simp [hk1]
      have t1 : (k == 2) = false := by simp [hk1]
      have HV := Lib.hid (beh_else hsc (by dsimp only; omega)); dsimp only at HV
      rw [hsc] at HI; clear hsc hk1 HTC
      generalize placeSc l zs x ⟨h, a, k, p, g, d⟩ = E at *
      go_enter Tryz.func115, Tryz.ntmps115
      go_wp2_with fail
      generalize hB : w.heap.size = B at *
      have HBE := Lib.hid hB; clear hB
      generalize ((w.alloc (.cells #[.slice A l.length ca, .slice D zs.length cd, .int .i64 x] 27)).alloc (.cells #[.int .i64 h, .int .i64 a, .int .i64 k, .string p, .int .i64 g, .int .i64 d] 34)).alloc (.cells #[.string ⟨#[]⟩, .int .i64 0] 115) = W at *
      obtain ⟨h1, h2, h3, h4, h5⟩ := H3.out
      obtain ⟨b0, b1, b2⟩ := Box3.cells (show Box3 27 W B _ _ _ from h1)
      obtain ⟨s0, s1, s2, s3, s4, s5⟩ := row6 h2
      have HZ := Lib.hid (show Box2 115 W (B + 2) (.string ⟨#[]⟩) (.int .i64 0) from h3)
      have HB0 := Lib.hid h4
      have hW0 : B < W.heap.size := by omega
      have hW1 : B + 1 < W.heap.size := by omega
      clear h1 h2 h3 h4
      refine (HI.out W HA.out HD.out).mono ?_; rintro e w1 ⟨rfl, hb1⟩
      have HB1 := Lib.hid (HB0.out.trans (hb1.mono (by omega)))
      have e0 := (hb1.cell (p := ⟨B, 0, none⟩) hW0).trans b0; have e1 := (hb1.cell (p := ⟨B, 1, none⟩) hW0).trans b1; have e2 := (hb1.cell (p := ⟨B, 2, none⟩) hW0).trans b2
      have f0 := (hb1.cell (p := ⟨B + 1, 0, none⟩) hW1).trans s0; have f1 := (hb1.cell (p := ⟨B + 1, 1, none⟩) hW1).trans s1; have f2 := (hb1.cell (p := ⟨B + 1, 2, none⟩) hW1).trans s2; have f3 := (hb1.cell (p := ⟨B + 1, 3, none⟩) hW1).trans s3; have f4 := (hb1.cell (p := ⟨B + 1, 4, none⟩) hW1).trans s4; have f5 := (hb1.cell (p := ⟨B + 1, 5, none⟩) hW1).trans s5
      have HA1 := Lib.hid (HA.out.below hb1); have HD1 := Lib.hid (HD.out.below hb1)
      have hX0 : B < w1.heap.size := by have := hb1.size; omega
      have hX1 : B + 1 < w1.heap.size := by have := hb1.size; omega
      have HZ1 := Lib.hid (HZ.out.below hb1)
      have hX2 : B + 2 < w1.heap.size := by have := hb1.size; omega
      clear b0 b1 b2 s0 s1 s2 s3 s4 s5 hb1 HA HD HB0 H3 HZ h5
      obtain ⟨r0, r1⟩ := HZ1.out.cells
      obtain ⟨z0, z1⟩ := HZ1.out.free
      have hne0 : ¬ B + 1 + 1 = B := by omega
      have HTW := Lib.hid (fun W' (hh : Below w1.heap.size w1 W') => HPL.out W' (HA1.out.below hh) (HD1.out.below hh))
      go_wp2_with fail
      go_region_held3 (fun w' => w'.cell? ⟨B, 0, none⟩ = some (.slice A l.length ca) ∧ w'.cell? ⟨B, 1, none⟩ = some (.slice D zs.length cd) ∧ w'.cell? ⟨B, 2, none⟩ = some (.int .i64 x) ∧ w'.cell? ⟨B + 1, 0, none⟩ = some (.int .i64 h) ∧ w'.cell? ⟨B + 1, 1, none⟩ = some (.int .i64 a) ∧ w'.cell? ⟨B + 1, 2, none⟩ = some (.int .i64 k) ∧ w'.cell? ⟨B + 1, 3, none⟩ = some (.string p) ∧ w'.cell? ⟨B + 1, 4, none⟩ = some (.int .i64 g) ∧ w'.cell? ⟨B + 1, 5, none⟩ = some (.int .i64 d))
        (go_keep)
        (first
          | (go_at_call 159; refine (HTW.out _ ?_).mono ?_; (focus (first | exact Below.refl _ _ | exact (Below.refl _ _).drew)); (rintro e u1 ⟨rfl, hu⟩; (first | (have hb2 : Below w1.heap.size w1 u1 := below_undrew hu) | (have hb2 : Below w1.heap.size w1 u1 := hu)); clear r0 r1 z0 z1; have g0 := (hb2.cell (p := ⟨B, 0, none⟩) hX0).trans e0; have g1 := (hb2.cell (p := ⟨B, 1, none⟩) hX0).trans e1; have g2 := (hb2.cell (p := ⟨B, 2, none⟩) hX0).trans e2; have g3 := (hb2.cell (p := ⟨B + 1, 0, none⟩) hX1).trans f0; have g4 := (hb2.cell (p := ⟨B + 1, 1, none⟩) hX1).trans f1; have g5 := (hb2.cell (p := ⟨B + 1, 2, none⟩) hX1).trans f2; have g6 := (hb2.cell (p := ⟨B + 1, 3, none⟩) hX1).trans f3; have g7 := (hb2.cell (p := ⟨B + 1, 4, none⟩) hX1).trans f4; have g8 := (hb2.cell (p := ⟨B + 1, 5, none⟩) hX1).trans f5; have R2 := Lib.hid (HZ1.out.below hb2); obtain ⟨r0, r1⟩ := R2.out.cells; obtain ⟨z0, z1⟩ := R2.out.free; have HB2 := Lib.hid (HB1.out.trans (hb2.mono (by omega))); have hz2 := hb2.size; clear hu))
          | fail)
      all_goals
        go_wp2
        refine bodyPost_ret (v := .agg #[.string E, .int .i64 a]) (by simp [results, Tryz.results115, go_sem, r0, r1]) rfl ⟨by rw [HV.out.1, HV.out.2], ?_⟩
        rw [HBE.out]
        first | exact (HB2.out.setCell (by dsimp only; omega) _).setCell (by dsimp only; omega) _ | exact (HB2.out.drew.setCell (by dsimp only; omega) _).setCell (by dsimp only; omega) _
    · skip
      have t0 : (k == 3) = false := by simp [hk2]
      have t1 : (k == 2) = true := by simp [hk2]
      have HV := Lib.hid (beh_else hsc (by dsimp only; omega)); dsimp only at HV
      rw [hsc] at HI; clear hsc hk2 HTC
      generalize placeSc l zs x ⟨h, a, k, p, g, d⟩ = E at *
      go_enter Tryz.func115, Tryz.ntmps115
      go_wp2_with fail
      generalize hB : w.heap.size = B at *
      have HBE := Lib.hid hB; clear hB
      generalize ((w.alloc (.cells #[.slice A l.length ca, .slice D zs.length cd, .int .i64 x] 27)).alloc (.cells #[.int .i64 h, .int .i64 a, .int .i64 k, .string p, .int .i64 g, .int .i64 d] 34)).alloc (.cells #[.string ⟨#[]⟩, .int .i64 0] 115) = W at *
      obtain ⟨h1, h2, h3, h4, h5⟩ := H3.out
      obtain ⟨b0, b1, b2⟩ := Box3.cells (show Box3 27 W B _ _ _ from h1)
      obtain ⟨s0, s1, s2, s3, s4, s5⟩ := row6 h2
      have HZ := Lib.hid (show Box2 115 W (B + 2) (.string ⟨#[]⟩) (.int .i64 0) from h3)
      have HB0 := Lib.hid h4
      have hW0 : B < W.heap.size := by omega
      have hW1 : B + 1 < W.heap.size := by omega
      clear h1 h2 h3 h4
      refine (HI.out W HA.out HD.out).mono ?_; rintro e w1 ⟨rfl, hb1⟩
      have HB1 := Lib.hid (HB0.out.trans (hb1.mono (by omega)))
      have e0 := (hb1.cell (p := ⟨B, 0, none⟩) hW0).trans b0; have e1 := (hb1.cell (p := ⟨B, 1, none⟩) hW0).trans b1; have e2 := (hb1.cell (p := ⟨B, 2, none⟩) hW0).trans b2
      have f0 := (hb1.cell (p := ⟨B + 1, 0, none⟩) hW1).trans s0; have f1 := (hb1.cell (p := ⟨B + 1, 1, none⟩) hW1).trans s1; have f2 := (hb1.cell (p := ⟨B + 1, 2, none⟩) hW1).trans s2; have f3 := (hb1.cell (p := ⟨B + 1, 3, none⟩) hW1).trans s3; have f4 := (hb1.cell (p := ⟨B + 1, 4, none⟩) hW1).trans s4; have f5 := (hb1.cell (p := ⟨B + 1, 5, none⟩) hW1).trans s5
      have HA1 := Lib.hid (HA.out.below hb1); have HD1 := Lib.hid (HD.out.below hb1)
      have hX0 : B < w1.heap.size := by have := hb1.size; omega
      have hX1 : B + 1 < w1.heap.size := by have := hb1.size; omega
      have HZ1 := Lib.hid (HZ.out.below hb1)
      have hX2 : B + 2 < w1.heap.size := by have := hb1.size; omega
      clear b0 b1 b2 s0 s1 s2 s3 s4 s5 hb1 HA HD HB0 H3 HZ h5
      obtain ⟨r0, r1⟩ := HZ1.out.cells
      obtain ⟨z0, z1⟩ := HZ1.out.free
      have hne0 : ¬ B + 1 + 1 = B := by omega
      have HTW := Lib.hid (fun W' (hh : Below w1.heap.size w1 W') => HPL.out W' (HA1.out.below hh) (HD1.out.below hh))
      go_wp2_with fail
      go_region_held3 (fun w' => w'.cell? ⟨B, 0, none⟩ = some (.slice A l.length ca) ∧ w'.cell? ⟨B, 1, none⟩ = some (.slice D zs.length cd) ∧ w'.cell? ⟨B, 2, none⟩ = some (.int .i64 x) ∧ w'.cell? ⟨B + 1, 0, none⟩ = some (.int .i64 h) ∧ w'.cell? ⟨B + 1, 1, none⟩ = some (.int .i64 a) ∧ w'.cell? ⟨B + 1, 2, none⟩ = some (.int .i64 k) ∧ w'.cell? ⟨B + 1, 3, none⟩ = some (.string p) ∧ w'.cell? ⟨B + 1, 4, none⟩ = some (.int .i64 g) ∧ w'.cell? ⟨B + 1, 5, none⟩ = some (.int .i64 d))
        (go_keep)
        (first
          | (go_at_call 159; refine (HTW.out _ ?_).mono ?_; (focus (first | exact Below.refl _ _ | exact (Below.refl _ _).drew)); (rintro e u1 ⟨rfl, hu⟩; (first | (have hb2 : Below w1.heap.size w1 u1 := below_undrew hu) | (have hb2 : Below w1.heap.size w1 u1 := hu)); clear r0 r1 z0 z1; have g0 := (hb2.cell (p := ⟨B, 0, none⟩) hX0).trans e0; have g1 := (hb2.cell (p := ⟨B, 1, none⟩) hX0).trans e1; have g2 := (hb2.cell (p := ⟨B, 2, none⟩) hX0).trans e2; have g3 := (hb2.cell (p := ⟨B + 1, 0, none⟩) hX1).trans f0; have g4 := (hb2.cell (p := ⟨B + 1, 1, none⟩) hX1).trans f1; have g5 := (hb2.cell (p := ⟨B + 1, 2, none⟩) hX1).trans f2; have g6 := (hb2.cell (p := ⟨B + 1, 3, none⟩) hX1).trans f3; have g7 := (hb2.cell (p := ⟨B + 1, 4, none⟩) hX1).trans f4; have g8 := (hb2.cell (p := ⟨B + 1, 5, none⟩) hX1).trans f5; have R2 := Lib.hid (HZ1.out.below hb2); obtain ⟨r0, r1⟩ := R2.out.cells; obtain ⟨z0, z1⟩ := R2.out.free; have HB2 := Lib.hid (HB1.out.trans (hb2.mono (by omega))); have hz2 := hb2.size; clear hu))
          | fail)
      all_goals
        go_wp2
        refine bodyPost_ret (v := .agg #[.string E, .int .i64 a]) (by simp [results, Tryz.results115, go_sem, r0, r1]) rfl ⟨by rw [HV.out.1, HV.out.2], ?_⟩
        rw [HBE.out]
        first | exact (HB2.out.setCell (by dsimp only; omega) _).setCell (by dsimp only; omega) _ | exact (HB2.out.drew.setCell (by dsimp only; omega) _).setCell (by dsimp only; omega) _
    · skip
      have t0 : (k == 3) = true := by simp [hk3]
      have htr := sc_trip (l := l) (zs := zs) (x := x) (r := ⟨h, a, k, p, g, d⟩) hsc (by dsimp only; omega)
      obtain ⟨_, _, kk, hgk, hkk, hlg, _, _, _, _⟩ := trB_of htr
      dsimp only at hgk hlg
      subst hgk
      have HV := Lib.hid (beh_load hsc (by dsimp only; omega)); dsimp only at HV; rw [hlg] at HV
      have HTX := Lib.hid (HTC.out htr)
      generalize trE l ⟨(kk : Int), d⟩ = E at *
      rw [hsc] at HI; clear hsc htr hlg hk3 HTC HPL
      go_enter Tryz.func115, Tryz.ntmps115
      go_wp2_with fail
      generalize hB : w.heap.size = B at *
      have HBE := Lib.hid hB; clear hB
      generalize ((w.alloc (.cells #[.slice A l.length ca, .slice D zs.length cd, .int .i64 x] 27)).alloc (.cells #[.int .i64 h, .int .i64 a, .int .i64 k, .string p, .int .i64 (kk : Int), .int .i64 d] 34)).alloc (.cells #[.string ⟨#[]⟩, .int .i64 0] 115) = W at *
      obtain ⟨h1, h2, h3, h4, h5⟩ := H3.out
      obtain ⟨b0, b1, b2⟩ := Box3.cells (show Box3 27 W B _ _ _ from h1)
      obtain ⟨s0, s1, s2, s3, s4, s5⟩ := row6 h2
      have HZ := Lib.hid (show Box2 115 W (B + 2) (.string ⟨#[]⟩) (.int .i64 0) from h3)
      have HB0 := Lib.hid h4
      have hW0 : B < W.heap.size := by omega
      have hW1 : B + 1 < W.heap.size := by omega
      clear h1 h2 h3 h4
      refine (HI.out W HA.out HD.out).mono ?_; rintro e w1 ⟨rfl, hb1⟩
      have HB1 := Lib.hid (HB0.out.trans (hb1.mono (by omega)))
      have e0 := (hb1.cell (p := ⟨B, 0, none⟩) hW0).trans b0; have e1 := (hb1.cell (p := ⟨B, 1, none⟩) hW0).trans b1; have e2 := (hb1.cell (p := ⟨B, 2, none⟩) hW0).trans b2
      have f0 := (hb1.cell (p := ⟨B + 1, 0, none⟩) hW1).trans s0; have f1 := (hb1.cell (p := ⟨B + 1, 1, none⟩) hW1).trans s1; have f2 := (hb1.cell (p := ⟨B + 1, 2, none⟩) hW1).trans s2; have f3 := (hb1.cell (p := ⟨B + 1, 3, none⟩) hW1).trans s3; have f4 := (hb1.cell (p := ⟨B + 1, 4, none⟩) hW1).trans s4; have f5 := (hb1.cell (p := ⟨B + 1, 5, none⟩) hW1).trans s5
      have HA1 := Lib.hid (HA.out.below hb1); have HD1 := Lib.hid (HD.out.below hb1)
      have hX0 : B < w1.heap.size := by have := hb1.size; omega
      have hX1 : B + 1 < w1.heap.size := by have := hb1.size; omega
      have HZ1 := Lib.hid (HZ.out.below hb1)
      have hX2 : B + 2 < w1.heap.size := by have := hb1.size; omega
      clear b0 b1 b2 s0 s1 s2 s3 s4 s5 hb1 HA HD HB0 H3 HZ h5
      obtain ⟨r0, r1⟩ := HZ1.out.cells
      obtain ⟨z0, z1⟩ := HZ1.out.free
      have hne0 : ¬ B + 1 + 1 = B := by omega
      obtain ⟨gl, rfl, hgl, l0, l1, l2, l3, l4, l5⟩ := HA1.out.lg kk hkk
      have hki : (kk : Int) < (l.length : Int) := by omega
      have hk0 : ¬ (kk : Int) < 0 := by omega
      obtain ⟨q, hq⟩ : ∃ q, q = l[kk] := ⟨_, rfl⟩
      rw [← hq] at l0 l1 l2 l3 l4 l5 HV
      clear hq
      have hglB : gl < B := by obtain ⟨g', e', hg', _⟩ := HAW.out kk hkk; cases e'; rw [← HBE.out]; exact hg'
      have hne1 : ¬ B + 1 + 1 = gl := by omega
      have HTW := Lib.hid (fun W' (hh : Below w1.heap.size w1 W') => HTX.out W' (HA1.out.below hh) (HD1.out.below hh))
      go_wp2_with fail
      go_region_held3 (fun w' => w'.cell? ⟨B, 0, none⟩ = some (.slice (some ⟨gl, 0, none⟩) l.length ca) ∧ w'.cell? ⟨B, 1, none⟩ = some (.slice D zs.length cd) ∧ w'.cell? ⟨B, 2, none⟩ = some (.int .i64 x) ∧ w'.cell? ⟨B + 1, 0, none⟩ = some (.int .i64 h) ∧ w'.cell? ⟨B + 1, 1, none⟩ = some (.int .i64 a) ∧ w'.cell? ⟨B + 1, 2, none⟩ = some (.int .i64 k) ∧ w'.cell? ⟨B + 1, 3, none⟩ = some (.string p) ∧ w'.cell? ⟨B + 1, 4, none⟩ = some (.int .i64 (kk : Int)) ∧ w'.cell? ⟨B + 1, 5, none⟩ = some (.int .i64 d) ∧ w'.cell? ⟨gl, kk * 6 + 1, none⟩ = some (.string q.t))
        (go_keep)
        (first
          | (go_at_call 126; refine (HTW.out _ ?_).mono ?_; (focus (first | exact Below.refl _ _ | exact (Below.refl _ _).drew)); (rintro e u1 ⟨rfl, hu⟩; (first | (have hb2 : Below w1.heap.size w1 u1 := below_undrew hu) | (have hb2 : Below w1.heap.size w1 u1 := hu)); clear r0 r1 z0 z1; have g0 := (hb2.cell (p := ⟨B, 0, none⟩) hX0).trans e0; have g1 := (hb2.cell (p := ⟨B, 1, none⟩) hX0).trans e1; have g2 := (hb2.cell (p := ⟨B, 2, none⟩) hX0).trans e2; have g3 := (hb2.cell (p := ⟨B + 1, 0, none⟩) hX1).trans f0; have g4 := (hb2.cell (p := ⟨B + 1, 1, none⟩) hX1).trans f1; have g5 := (hb2.cell (p := ⟨B + 1, 2, none⟩) hX1).trans f2; have g6 := (hb2.cell (p := ⟨B + 1, 3, none⟩) hX1).trans f3; have g7 := (hb2.cell (p := ⟨B + 1, 4, none⟩) hX1).trans f4; have g8 := (hb2.cell (p := ⟨B + 1, 5, none⟩) hX1).trans f5; have m0 := (hb2.cell (p := ⟨gl, kk * 6 + 1, none⟩) hgl).trans l1; have R2 := Lib.hid (HZ1.out.below hb2); obtain ⟨r0, r1⟩ := R2.out.cells; obtain ⟨z0, z1⟩ := R2.out.free; have HB2 := Lib.hid (HB1.out.trans (hb2.mono (by omega))); have hz2 := hb2.size; clear hu))
          | fail)
      all_goals
        go_wp2
        refine bodyPost_ret (v := .agg #[.string q.t, .int .i64 E]) (by simp [results, Tryz.results115, go_sem, r0, r1]) rfl ⟨by rw [HV.out.1, HV.out.2], ?_⟩
        rw [HBE.out]
        first | exact (HB2.out.setCell (by dsimp only; omega) _).setCell (by dsimp only; omega) _ | exact (HB2.out.drew.setCell (by dsimp only; omega) _).setCell (by dsimp only; omega) _
    · skip
      have t0 : (k == 3) = false := by simp [hk4]
      have t1 : (k == 2) = false := by simp [hk4]
      have HV := Lib.hid (beh_else hsc (by dsimp only; omega)); dsimp only at HV
      rw [hsc] at HI; clear hsc hk4 HTC
      generalize placeSc l zs x ⟨h, a, k, p, g, d⟩ = E at *
      go_enter Tryz.func115, Tryz.ntmps115
      go_wp2_with fail
      generalize hB : w.heap.size = B at *
      have HBE := Lib.hid hB; clear hB
      generalize ((w.alloc (.cells #[.slice A l.length ca, .slice D zs.length cd, .int .i64 x] 27)).alloc (.cells #[.int .i64 h, .int .i64 a, .int .i64 k, .string p, .int .i64 g, .int .i64 d] 34)).alloc (.cells #[.string ⟨#[]⟩, .int .i64 0] 115) = W at *
      obtain ⟨h1, h2, h3, h4, h5⟩ := H3.out
      obtain ⟨b0, b1, b2⟩ := Box3.cells (show Box3 27 W B _ _ _ from h1)
      obtain ⟨s0, s1, s2, s3, s4, s5⟩ := row6 h2
      have HZ := Lib.hid (show Box2 115 W (B + 2) (.string ⟨#[]⟩) (.int .i64 0) from h3)
      have HB0 := Lib.hid h4
      have hW0 : B < W.heap.size := by omega
      have hW1 : B + 1 < W.heap.size := by omega
      clear h1 h2 h3 h4
      refine (HI.out W HA.out HD.out).mono ?_; rintro e w1 ⟨rfl, hb1⟩
      have HB1 := Lib.hid (HB0.out.trans (hb1.mono (by omega)))
      have e0 := (hb1.cell (p := ⟨B, 0, none⟩) hW0).trans b0; have e1 := (hb1.cell (p := ⟨B, 1, none⟩) hW0).trans b1; have e2 := (hb1.cell (p := ⟨B, 2, none⟩) hW0).trans b2
      have f0 := (hb1.cell (p := ⟨B + 1, 0, none⟩) hW1).trans s0; have f1 := (hb1.cell (p := ⟨B + 1, 1, none⟩) hW1).trans s1; have f2 := (hb1.cell (p := ⟨B + 1, 2, none⟩) hW1).trans s2; have f3 := (hb1.cell (p := ⟨B + 1, 3, none⟩) hW1).trans s3; have f4 := (hb1.cell (p := ⟨B + 1, 4, none⟩) hW1).trans s4; have f5 := (hb1.cell (p := ⟨B + 1, 5, none⟩) hW1).trans s5
      have HA1 := Lib.hid (HA.out.below hb1); have HD1 := Lib.hid (HD.out.below hb1)
      have hX0 : B < w1.heap.size := by have := hb1.size; omega
      have hX1 : B + 1 < w1.heap.size := by have := hb1.size; omega
      have HZ1 := Lib.hid (HZ.out.below hb1)
      have hX2 : B + 2 < w1.heap.size := by have := hb1.size; omega
      clear b0 b1 b2 s0 s1 s2 s3 s4 s5 hb1 HA HD HB0 H3 HZ h5
      obtain ⟨r0, r1⟩ := HZ1.out.cells
      obtain ⟨z0, z1⟩ := HZ1.out.free
      have hne0 : ¬ B + 1 + 1 = B := by omega
      have HTW := Lib.hid (fun W' (hh : Below w1.heap.size w1 W') => HPL.out W' (HA1.out.below hh) (HD1.out.below hh))
      go_wp2_with fail
      go_region_held3 (fun w' => w'.cell? ⟨B, 0, none⟩ = some (.slice A l.length ca) ∧ w'.cell? ⟨B, 1, none⟩ = some (.slice D zs.length cd) ∧ w'.cell? ⟨B, 2, none⟩ = some (.int .i64 x) ∧ w'.cell? ⟨B + 1, 0, none⟩ = some (.int .i64 h) ∧ w'.cell? ⟨B + 1, 1, none⟩ = some (.int .i64 a) ∧ w'.cell? ⟨B + 1, 2, none⟩ = some (.int .i64 k) ∧ w'.cell? ⟨B + 1, 3, none⟩ = some (.string p) ∧ w'.cell? ⟨B + 1, 4, none⟩ = some (.int .i64 g) ∧ w'.cell? ⟨B + 1, 5, none⟩ = some (.int .i64 d))
        (go_keep)
        (first
          | (go_at_call 159; refine (HTW.out _ ?_).mono ?_; (focus (first | exact Below.refl _ _ | exact (Below.refl _ _).drew)); (rintro e u1 ⟨rfl, hu⟩; (first | (have hb2 : Below w1.heap.size w1 u1 := below_undrew hu) | (have hb2 : Below w1.heap.size w1 u1 := hu)); clear r0 r1 z0 z1; have g0 := (hb2.cell (p := ⟨B, 0, none⟩) hX0).trans e0; have g1 := (hb2.cell (p := ⟨B, 1, none⟩) hX0).trans e1; have g2 := (hb2.cell (p := ⟨B, 2, none⟩) hX0).trans e2; have g3 := (hb2.cell (p := ⟨B + 1, 0, none⟩) hX1).trans f0; have g4 := (hb2.cell (p := ⟨B + 1, 1, none⟩) hX1).trans f1; have g5 := (hb2.cell (p := ⟨B + 1, 2, none⟩) hX1).trans f2; have g6 := (hb2.cell (p := ⟨B + 1, 3, none⟩) hX1).trans f3; have g7 := (hb2.cell (p := ⟨B + 1, 4, none⟩) hX1).trans f4; have g8 := (hb2.cell (p := ⟨B + 1, 5, none⟩) hX1).trans f5; have R2 := Lib.hid (HZ1.out.below hb2); obtain ⟨r0, r1⟩ := R2.out.cells; obtain ⟨z0, z1⟩ := R2.out.free; have HB2 := Lib.hid (HB1.out.trans (hb2.mono (by omega))); have hz2 := hb2.size; clear hu))
          | fail)
      all_goals
        go_wp2
        refine bodyPost_ret (v := .agg #[.string E, .int .i64 a]) (by simp [results, Tryz.results115, go_sem, r0, r1]) rfl ⟨by rw [HV.out.1, HV.out.2], ?_⟩
        rw [HBE.out]
        first | exact (HB2.out.setCell (by dsimp only; omega) _).setCell (by dsimp only; omega) _ | exact (HB2.out.drew.setCell (by dsimp only; omega) _).setCell (by dsimp only; omega) _
set_option maxRecDepth 100000 in
set_option maxHeartbeats 4000000 in
theorem behind_spec (h a k : Int) (p : ByteArray) (g d : Int) (A : Option Addr) (ca : Nat) (l : List Lg) (D : Option Addr) (cd : Nat) (zs : List Int) (x : Int) (w : World) (hA : InK 6 lgC w A l) (hD : IntsIn w D zs) (hs : ∀ z ∈ l, z.f.size ≤ maxLen ∧ z.t.size ≤ maxLen) (hn : l.length ≤ 1048576) (hm : zs.length ≤ 1048576) :
    Calls Tryz.prog 94 #[.agg #[.slice A l.length ca, .slice D zs.length cd, .int .i64 x], .agg #[.int .i64 h, .int .i64 a, .int .i64 k, .string p, .int .i64 g, .int .i64 d]] w fun e w' => e = .returned (.agg #[.string (behP l zs x ⟨h, a, k, p, g, d⟩), .int .i64 (behA l zs x ⟨h, a, k, p, g, d⟩)]) ∧ Below w.heap.size w w' := by
  have H3 := Lib.hid (three w (.cells #[.slice A l.length ca, .slice D zs.length cd, .int .i64 x] 27) (.cells #[.int .i64 h, .int .i64 a, .int .i64 k, .string p, .int .i64 g, .int .i64 d] 34) (.cells #[.string ⟨#[]⟩, .int .i64 0] 115))
  have HAW := Lib.hid hA; have HA := Lib.hid (hA.below H3.out.2.2.2.1); have HD := Lib.hid (hD.below H3.out.2.2.2.1); clear hA hD
  have HI := Lib.hid (fun W (h1 : InK 6 lgC W A l) (h2 : IntsIn W D zs) => is_sc_spec h a k p g d A ca l D cd zs x W h1 h2 hs hn hm)
  have HPL := Lib.hid (fun W (h1 : InK 6 lgC W A l) (h2 : IntsIn W D zs) => place_of_spec h a k p g d A ca l D cd zs x W h1 h2 hs hn hm)
  have HTC := Lib.hid (fun (htr : trB l zs x ⟨g, d⟩ = true) W (h1 : InK 6 lgC W A l) (h2 : IntsIn W D zs) => end_tp_spec ⟨g, d⟩ htr A ca D cd W h1 h2 hn)
  clear hs
  cases hsc : scB l zs x ⟨h, a, k, p, g, d⟩ with
  | false =>
    have HV := Lib.hid (beh_no hsc)
    rw [hsc] at HI; clear hsc HTC HPL
    go_enter Tryz.func94, Tryz.ntmps94
    go_wp2_with fail
    generalize hB : w.heap.size = B at *
    have HBE := Lib.hid hB; clear hB
    generalize ((w.alloc (.cells #[.slice A l.length ca, .slice D zs.length cd, .int .i64 x] 27)).alloc (.cells #[.int .i64 h, .int .i64 a, .int .i64 k, .string p, .int .i64 g, .int .i64 d] 34)).alloc (.cells #[.string ⟨#[]⟩, .int .i64 0] 115) = W at *
    obtain ⟨h1, h2, h3, h4, h5⟩ := H3.out
    obtain ⟨b0, b1, b2⟩ := Box3.cells (show Box3 27 W B _ _ _ from h1)
    obtain ⟨s0, s1, s2, s3, s4, s5⟩ := row6 h2
    have HZ := Lib.hid (show Box2 115 W (B + 2) (.string ⟨#[]⟩) (.int .i64 0) from h3)
    have HB0 := Lib.hid h4
    have hW0 : B < W.heap.size := by omega
    have hW1 : B + 1 < W.heap.size := by omega
    clear h1 h2 h3 h4
    refine (HI.out W HA.out HD.out).mono ?_; rintro e w1 ⟨rfl, hb1⟩
    have HB1 := Lib.hid (HB0.out.trans (hb1.mono (by omega)))
    have e0 := (hb1.cell (p := ⟨B, 0, none⟩) hW0).trans b0; have e1 := (hb1.cell (p := ⟨B, 1, none⟩) hW0).trans b1; have e2 := (hb1.cell (p := ⟨B, 2, none⟩) hW0).trans b2
    have f0 := (hb1.cell (p := ⟨B + 1, 0, none⟩) hW1).trans s0; have f1 := (hb1.cell (p := ⟨B + 1, 1, none⟩) hW1).trans s1; have f2 := (hb1.cell (p := ⟨B + 1, 2, none⟩) hW1).trans s2; have f3 := (hb1.cell (p := ⟨B + 1, 3, none⟩) hW1).trans s3; have f4 := (hb1.cell (p := ⟨B + 1, 4, none⟩) hW1).trans s4; have f5 := (hb1.cell (p := ⟨B + 1, 5, none⟩) hW1).trans s5
    have HA1 := Lib.hid (HA.out.below hb1); have HD1 := Lib.hid (HD.out.below hb1)
    have hX0 : B < w1.heap.size := by have := hb1.size; omega
    have hX1 : B + 1 < w1.heap.size := by have := hb1.size; omega
    have HZ1 := Lib.hid (HZ.out.below hb1)
    have hX2 : B + 2 < w1.heap.size := by have := hb1.size; omega
    clear b0 b1 b2 s0 s1 s2 s3 s4 s5 hb1 HA HD HB0 H3 HZ h5
    obtain ⟨r0, r1⟩ := HZ1.out.cells
    obtain ⟨z0, z1⟩ := HZ1.out.free
    have hne0 : ¬ B + 1 + 1 = B := by omega
    go_wp2
    refine bodyPost_ret (v := .agg #[.string ⟨#[]⟩, .int .i64 0]) (by simp [results, Tryz.results94, go_sem, r0, r1]) rfl ⟨by rw [HV.out.1, HV.out.2], ?_⟩
    rw [HBE.out]
    exact (HB1.out.setCell (by dsimp only; omega) _).setCell (by dsimp only; omega) _
  | true =>
    have hkd := sc_kind hsc
    dsimp only at hkd
    rcases hkd with hk1 | hk2 | hk3 | hk4
    · skip
      have t0 : (k == 3) = false := by simp [hk1]
      have t1 : (k == 2) = false := by simp [hk1]
      have HV := Lib.hid (beh_else hsc (by dsimp only; omega)); dsimp only at HV
      rw [hsc] at HI; clear hsc hk1 HTC
      generalize placeSc l zs x ⟨h, a, k, p, g, d⟩ = E at *
      go_enter Tryz.func94, Tryz.ntmps94
      go_wp2_with fail
      generalize hB : w.heap.size = B at *
      have HBE := Lib.hid hB; clear hB
      generalize ((w.alloc (.cells #[.slice A l.length ca, .slice D zs.length cd, .int .i64 x] 27)).alloc (.cells #[.int .i64 h, .int .i64 a, .int .i64 k, .string p, .int .i64 g, .int .i64 d] 34)).alloc (.cells #[.string ⟨#[]⟩, .int .i64 0] 115) = W at *
      obtain ⟨h1, h2, h3, h4, h5⟩ := H3.out
      obtain ⟨b0, b1, b2⟩ := Box3.cells (show Box3 27 W B _ _ _ from h1)
      obtain ⟨s0, s1, s2, s3, s4, s5⟩ := row6 h2
      have HZ := Lib.hid (show Box2 115 W (B + 2) (.string ⟨#[]⟩) (.int .i64 0) from h3)
      have HB0 := Lib.hid h4
      have hW0 : B < W.heap.size := by omega
      have hW1 : B + 1 < W.heap.size := by omega
      clear h1 h2 h3 h4
      refine (HI.out W HA.out HD.out).mono ?_; rintro e w1 ⟨rfl, hb1⟩
      have HB1 := Lib.hid (HB0.out.trans (hb1.mono (by omega)))
      have e0 := (hb1.cell (p := ⟨B, 0, none⟩) hW0).trans b0; have e1 := (hb1.cell (p := ⟨B, 1, none⟩) hW0).trans b1; have e2 := (hb1.cell (p := ⟨B, 2, none⟩) hW0).trans b2
      have f0 := (hb1.cell (p := ⟨B + 1, 0, none⟩) hW1).trans s0; have f1 := (hb1.cell (p := ⟨B + 1, 1, none⟩) hW1).trans s1; have f2 := (hb1.cell (p := ⟨B + 1, 2, none⟩) hW1).trans s2; have f3 := (hb1.cell (p := ⟨B + 1, 3, none⟩) hW1).trans s3; have f4 := (hb1.cell (p := ⟨B + 1, 4, none⟩) hW1).trans s4; have f5 := (hb1.cell (p := ⟨B + 1, 5, none⟩) hW1).trans s5
      have HA1 := Lib.hid (HA.out.below hb1); have HD1 := Lib.hid (HD.out.below hb1)
      have hX0 : B < w1.heap.size := by have := hb1.size; omega
      have hX1 : B + 1 < w1.heap.size := by have := hb1.size; omega
      have HZ1 := Lib.hid (HZ.out.below hb1)
      have hX2 : B + 2 < w1.heap.size := by have := hb1.size; omega
      clear b0 b1 b2 s0 s1 s2 s3 s4 s5 hb1 HA HD HB0 H3 HZ h5
      obtain ⟨r0, r1⟩ := HZ1.out.cells
      obtain ⟨z0, z1⟩ := HZ1.out.free
      have hne0 : ¬ B + 1 + 1 = B := by omega
      have HTW := Lib.hid (fun W' (hh : Below w1.heap.size w1 W') => HPL.out W' (HA1.out.below hh) (HD1.out.below hh))
      go_wp2_with fail
      go_region_held3 (fun w' => w'.cell? ⟨B, 0, none⟩ = some (.slice A l.length ca) ∧ w'.cell? ⟨B, 1, none⟩ = some (.slice D zs.length cd) ∧ w'.cell? ⟨B, 2, none⟩ = some (.int .i64 x) ∧ w'.cell? ⟨B + 1, 0, none⟩ = some (.int .i64 h) ∧ w'.cell? ⟨B + 1, 1, none⟩ = some (.int .i64 a) ∧ w'.cell? ⟨B + 1, 2, none⟩ = some (.int .i64 k) ∧ w'.cell? ⟨B + 1, 3, none⟩ = some (.string p) ∧ w'.cell? ⟨B + 1, 4, none⟩ = some (.int .i64 g) ∧ w'.cell? ⟨B + 1, 5, none⟩ = some (.int .i64 d))
        (go_keep)
        (first
          | (go_at_call 136; refine (HTW.out _ ?_).mono ?_; (focus (first | exact Below.refl _ _ | exact (Below.refl _ _).drew)); (rintro e u1 ⟨rfl, hu⟩; (first | (have hb2 : Below w1.heap.size w1 u1 := below_undrew hu) | (have hb2 : Below w1.heap.size w1 u1 := hu)); clear r0 r1 z0 z1; have g0 := (hb2.cell (p := ⟨B, 0, none⟩) hX0).trans e0; have g1 := (hb2.cell (p := ⟨B, 1, none⟩) hX0).trans e1; have g2 := (hb2.cell (p := ⟨B, 2, none⟩) hX0).trans e2; have g3 := (hb2.cell (p := ⟨B + 1, 0, none⟩) hX1).trans f0; have g4 := (hb2.cell (p := ⟨B + 1, 1, none⟩) hX1).trans f1; have g5 := (hb2.cell (p := ⟨B + 1, 2, none⟩) hX1).trans f2; have g6 := (hb2.cell (p := ⟨B + 1, 3, none⟩) hX1).trans f3; have g7 := (hb2.cell (p := ⟨B + 1, 4, none⟩) hX1).trans f4; have g8 := (hb2.cell (p := ⟨B + 1, 5, none⟩) hX1).trans f5; have R2 := Lib.hid (HZ1.out.below hb2); obtain ⟨r0, r1⟩ := R2.out.cells; obtain ⟨z0, z1⟩ := R2.out.free; have HB2 := Lib.hid (HB1.out.trans (hb2.mono (by omega))); have hz2 := hb2.size; clear hu))
          | fail)
      all_goals
        go_wp2
        refine bodyPost_ret (v := .agg #[.string E, .int .i64 a]) (by simp [results, Tryz.results94, go_sem, r0, r1]) rfl ⟨by rw [HV.out.1, HV.out.2], ?_⟩
        rw [HBE.out]
        first | exact (HB2.out.setCell (by dsimp only; omega) _).setCell (by dsimp only; omega) _ | exact (HB2.out.drew.setCell (by dsimp only; omega) _).setCell (by dsimp only; omega) _
    · skip
      have t0 : (k == 3) = false := by simp [hk2]
      have t1 : (k == 2) = true := by simp [hk2]
      have HV := Lib.hid (beh_else hsc (by dsimp only; omega)); dsimp only at HV
      rw [hsc] at HI; clear hsc hk2 HTC
      generalize placeSc l zs x ⟨h, a, k, p, g, d⟩ = E at *
      go_enter Tryz.func94, Tryz.ntmps94
      go_wp2_with fail
      generalize hB : w.heap.size = B at *
      have HBE := Lib.hid hB; clear hB
      generalize ((w.alloc (.cells #[.slice A l.length ca, .slice D zs.length cd, .int .i64 x] 27)).alloc (.cells #[.int .i64 h, .int .i64 a, .int .i64 k, .string p, .int .i64 g, .int .i64 d] 34)).alloc (.cells #[.string ⟨#[]⟩, .int .i64 0] 115) = W at *
      obtain ⟨h1, h2, h3, h4, h5⟩ := H3.out
      obtain ⟨b0, b1, b2⟩ := Box3.cells (show Box3 27 W B _ _ _ from h1)
      obtain ⟨s0, s1, s2, s3, s4, s5⟩ := row6 h2
      have HZ := Lib.hid (show Box2 115 W (B + 2) (.string ⟨#[]⟩) (.int .i64 0) from h3)
      have HB0 := Lib.hid h4
      have hW0 : B < W.heap.size := by omega
      have hW1 : B + 1 < W.heap.size := by omega
      clear h1 h2 h3 h4
      refine (HI.out W HA.out HD.out).mono ?_; rintro e w1 ⟨rfl, hb1⟩
      have HB1 := Lib.hid (HB0.out.trans (hb1.mono (by omega)))
      have e0 := (hb1.cell (p := ⟨B, 0, none⟩) hW0).trans b0; have e1 := (hb1.cell (p := ⟨B, 1, none⟩) hW0).trans b1; have e2 := (hb1.cell (p := ⟨B, 2, none⟩) hW0).trans b2
      have f0 := (hb1.cell (p := ⟨B + 1, 0, none⟩) hW1).trans s0; have f1 := (hb1.cell (p := ⟨B + 1, 1, none⟩) hW1).trans s1; have f2 := (hb1.cell (p := ⟨B + 1, 2, none⟩) hW1).trans s2; have f3 := (hb1.cell (p := ⟨B + 1, 3, none⟩) hW1).trans s3; have f4 := (hb1.cell (p := ⟨B + 1, 4, none⟩) hW1).trans s4; have f5 := (hb1.cell (p := ⟨B + 1, 5, none⟩) hW1).trans s5
      have HA1 := Lib.hid (HA.out.below hb1); have HD1 := Lib.hid (HD.out.below hb1)
      have hX0 : B < w1.heap.size := by have := hb1.size; omega
      have hX1 : B + 1 < w1.heap.size := by have := hb1.size; omega
      have HZ1 := Lib.hid (HZ.out.below hb1)
      have hX2 : B + 2 < w1.heap.size := by have := hb1.size; omega
      clear b0 b1 b2 s0 s1 s2 s3 s4 s5 hb1 HA HD HB0 H3 HZ h5
      obtain ⟨r0, r1⟩ := HZ1.out.cells
      obtain ⟨z0, z1⟩ := HZ1.out.free
      have hne0 : ¬ B + 1 + 1 = B := by omega
      have HTW := Lib.hid (fun W' (hh : Below w1.heap.size w1 W') => HPL.out W' (HA1.out.below hh) (HD1.out.below hh))
      go_wp2_with fail
      go_region_held3 (fun w' => w'.cell? ⟨B, 0, none⟩ = some (.slice A l.length ca) ∧ w'.cell? ⟨B, 1, none⟩ = some (.slice D zs.length cd) ∧ w'.cell? ⟨B, 2, none⟩ = some (.int .i64 x) ∧ w'.cell? ⟨B + 1, 0, none⟩ = some (.int .i64 h) ∧ w'.cell? ⟨B + 1, 1, none⟩ = some (.int .i64 a) ∧ w'.cell? ⟨B + 1, 2, none⟩ = some (.int .i64 k) ∧ w'.cell? ⟨B + 1, 3, none⟩ = some (.string p) ∧ w'.cell? ⟨B + 1, 4, none⟩ = some (.int .i64 g) ∧ w'.cell? ⟨B + 1, 5, none⟩ = some (.int .i64 d))
        (go_keep)
        (first
          | (go_at_call 136; refine (HTW.out _ ?_).mono ?_; (focus (first | exact Below.refl _ _ | exact (Below.refl _ _).drew)); (rintro e u1 ⟨rfl, hu⟩; (first | (have hb2 : Below w1.heap.size w1 u1 := below_undrew hu) | (have hb2 : Below w1.heap.size w1 u1 := hu)); clear r0 r1 z0 z1; have g0 := (hb2.cell (p := ⟨B, 0, none⟩) hX0).trans e0; have g1 := (hb2.cell (p := ⟨B, 1, none⟩) hX0).trans e1; have g2 := (hb2.cell (p := ⟨B, 2, none⟩) hX0).trans e2; have g3 := (hb2.cell (p := ⟨B + 1, 0, none⟩) hX1).trans f0; have g4 := (hb2.cell (p := ⟨B + 1, 1, none⟩) hX1).trans f1; have g5 := (hb2.cell (p := ⟨B + 1, 2, none⟩) hX1).trans f2; have g6 := (hb2.cell (p := ⟨B + 1, 3, none⟩) hX1).trans f3; have g7 := (hb2.cell (p := ⟨B + 1, 4, none⟩) hX1).trans f4; have g8 := (hb2.cell (p := ⟨B + 1, 5, none⟩) hX1).trans f5; have R2 := Lib.hid (HZ1.out.below hb2); obtain ⟨r0, r1⟩ := R2.out.cells; obtain ⟨z0, z1⟩ := R2.out.free; have HB2 := Lib.hid (HB1.out.trans (hb2.mono (by omega))); have hz2 := hb2.size; clear hu))
          | fail)
      all_goals
        go_wp2
        refine bodyPost_ret (v := .agg #[.string E, .int .i64 a]) (by simp [results, Tryz.results94, go_sem, r0, r1]) rfl ⟨by rw [HV.out.1, HV.out.2], ?_⟩
        rw [HBE.out]
        first | exact (HB2.out.setCell (by dsimp only; omega) _).setCell (by dsimp only; omega) _ | exact (HB2.out.drew.setCell (by dsimp only; omega) _).setCell (by dsimp only; omega) _
    · skip
      have t0 : (k == 3) = true := by simp [hk3]
      have htr := sc_trip (l := l) (zs := zs) (x := x) (r := ⟨h, a, k, p, g, d⟩) hsc (by dsimp only; omega)
      obtain ⟨_, _, kk, hgk, hkk, hlg, _, _, _, _⟩ := trB_of htr
      dsimp only at hgk hlg
      subst hgk
      have HV := Lib.hid (beh_load hsc (by dsimp only; omega)); dsimp only at HV; rw [hlg] at HV
      have HTX := Lib.hid (HTC.out htr)
      generalize trE l ⟨(kk : Int), d⟩ = E at *
      rw [hsc] at HI; clear hsc htr hlg hk3 HTC HPL
      go_enter Tryz.func94, Tryz.ntmps94
      go_wp2_with fail
      generalize hB : w.heap.size = B at *
      have HBE := Lib.hid hB; clear hB
      generalize ((w.alloc (.cells #[.slice A l.length ca, .slice D zs.length cd, .int .i64 x] 27)).alloc (.cells #[.int .i64 h, .int .i64 a, .int .i64 k, .string p, .int .i64 (kk : Int), .int .i64 d] 34)).alloc (.cells #[.string ⟨#[]⟩, .int .i64 0] 115) = W at *
      obtain ⟨h1, h2, h3, h4, h5⟩ := H3.out
      obtain ⟨b0, b1, b2⟩ := Box3.cells (show Box3 27 W B _ _ _ from h1)
      obtain ⟨s0, s1, s2, s3, s4, s5⟩ := row6 h2
      have HZ := Lib.hid (show Box2 115 W (B + 2) (.string ⟨#[]⟩) (.int .i64 0) from h3)
      have HB0 := Lib.hid h4
      have hW0 : B < W.heap.size := by omega
      have hW1 : B + 1 < W.heap.size := by omega
      clear h1 h2 h3 h4
      refine (HI.out W HA.out HD.out).mono ?_; rintro e w1 ⟨rfl, hb1⟩
      have HB1 := Lib.hid (HB0.out.trans (hb1.mono (by omega)))
      have e0 := (hb1.cell (p := ⟨B, 0, none⟩) hW0).trans b0; have e1 := (hb1.cell (p := ⟨B, 1, none⟩) hW0).trans b1; have e2 := (hb1.cell (p := ⟨B, 2, none⟩) hW0).trans b2
      have f0 := (hb1.cell (p := ⟨B + 1, 0, none⟩) hW1).trans s0; have f1 := (hb1.cell (p := ⟨B + 1, 1, none⟩) hW1).trans s1; have f2 := (hb1.cell (p := ⟨B + 1, 2, none⟩) hW1).trans s2; have f3 := (hb1.cell (p := ⟨B + 1, 3, none⟩) hW1).trans s3; have f4 := (hb1.cell (p := ⟨B + 1, 4, none⟩) hW1).trans s4; have f5 := (hb1.cell (p := ⟨B + 1, 5, none⟩) hW1).trans s5
      have HA1 := Lib.hid (HA.out.below hb1); have HD1 := Lib.hid (HD.out.below hb1)
      have hX0 : B < w1.heap.size := by have := hb1.size; omega
      have hX1 : B + 1 < w1.heap.size := by have := hb1.size; omega
      have HZ1 := Lib.hid (HZ.out.below hb1)
      have hX2 : B + 2 < w1.heap.size := by have := hb1.size; omega
      clear b0 b1 b2 s0 s1 s2 s3 s4 s5 hb1 HA HD HB0 H3 HZ h5
      obtain ⟨r0, r1⟩ := HZ1.out.cells
      obtain ⟨z0, z1⟩ := HZ1.out.free
      have hne0 : ¬ B + 1 + 1 = B := by omega
      obtain ⟨gl, rfl, hgl, l0, l1, l2, l3, l4, l5⟩ := HA1.out.lg kk hkk
      have hki : (kk : Int) < (l.length : Int) := by omega
      have hk0 : ¬ (kk : Int) < 0 := by omega
      obtain ⟨q, hq⟩ : ∃ q, q = l[kk] := ⟨_, rfl⟩
      rw [← hq] at l0 l1 l2 l3 l4 l5 HV
      clear hq
      have hglB : gl < B := by obtain ⟨g', e', hg', _⟩ := HAW.out kk hkk; cases e'; rw [← HBE.out]; exact hg'
      have hne1 : ¬ B + 1 + 1 = gl := by omega
      have HTW := Lib.hid (fun W' (hh : Below w1.heap.size w1 W') => HTX.out W' (HA1.out.below hh) (HD1.out.below hh))
      go_wp2_with fail
      go_region_held3 (fun w' => w'.cell? ⟨B, 0, none⟩ = some (.slice (some ⟨gl, 0, none⟩) l.length ca) ∧ w'.cell? ⟨B, 1, none⟩ = some (.slice D zs.length cd) ∧ w'.cell? ⟨B, 2, none⟩ = some (.int .i64 x) ∧ w'.cell? ⟨B + 1, 0, none⟩ = some (.int .i64 h) ∧ w'.cell? ⟨B + 1, 1, none⟩ = some (.int .i64 a) ∧ w'.cell? ⟨B + 1, 2, none⟩ = some (.int .i64 k) ∧ w'.cell? ⟨B + 1, 3, none⟩ = some (.string p) ∧ w'.cell? ⟨B + 1, 4, none⟩ = some (.int .i64 (kk : Int)) ∧ w'.cell? ⟨B + 1, 5, none⟩ = some (.int .i64 d) ∧ w'.cell? ⟨gl, kk * 6 + 1, none⟩ = some (.string q.t))
        (go_keep)
        (first
          | (go_at_call 111; refine (HTW.out _ ?_).mono ?_; (focus (first | exact Below.refl _ _ | exact (Below.refl _ _).drew)); (rintro e u1 ⟨rfl, hu⟩; (first | (have hb2 : Below w1.heap.size w1 u1 := below_undrew hu) | (have hb2 : Below w1.heap.size w1 u1 := hu)); clear r0 r1 z0 z1; have g0 := (hb2.cell (p := ⟨B, 0, none⟩) hX0).trans e0; have g1 := (hb2.cell (p := ⟨B, 1, none⟩) hX0).trans e1; have g2 := (hb2.cell (p := ⟨B, 2, none⟩) hX0).trans e2; have g3 := (hb2.cell (p := ⟨B + 1, 0, none⟩) hX1).trans f0; have g4 := (hb2.cell (p := ⟨B + 1, 1, none⟩) hX1).trans f1; have g5 := (hb2.cell (p := ⟨B + 1, 2, none⟩) hX1).trans f2; have g6 := (hb2.cell (p := ⟨B + 1, 3, none⟩) hX1).trans f3; have g7 := (hb2.cell (p := ⟨B + 1, 4, none⟩) hX1).trans f4; have g8 := (hb2.cell (p := ⟨B + 1, 5, none⟩) hX1).trans f5; have m0 := (hb2.cell (p := ⟨gl, kk * 6 + 1, none⟩) hgl).trans l1; have R2 := Lib.hid (HZ1.out.below hb2); obtain ⟨r0, r1⟩ := R2.out.cells; obtain ⟨z0, z1⟩ := R2.out.free; have HB2 := Lib.hid (HB1.out.trans (hb2.mono (by omega))); have hz2 := hb2.size; clear hu))
          | fail)
      all_goals
        go_wp2
        refine bodyPost_ret (v := .agg #[.string q.t, .int .i64 E]) (by simp [results, Tryz.results94, go_sem, r0, r1]) rfl ⟨by rw [HV.out.1, HV.out.2], ?_⟩
        rw [HBE.out]
        first | exact (HB2.out.setCell (by dsimp only; omega) _).setCell (by dsimp only; omega) _ | exact (HB2.out.drew.setCell (by dsimp only; omega) _).setCell (by dsimp only; omega) _
    · skip
      have t0 : (k == 3) = false := by simp [hk4]
      have t1 : (k == 2) = false := by simp [hk4]
      have HV := Lib.hid (beh_else hsc (by dsimp only; omega)); dsimp only at HV
      rw [hsc] at HI; clear hsc hk4 HTC
      generalize placeSc l zs x ⟨h, a, k, p, g, d⟩ = E at *
      go_enter Tryz.func94, Tryz.ntmps94
      go_wp2_with fail
      generalize hB : w.heap.size = B at *
      have HBE := Lib.hid hB; clear hB
      generalize ((w.alloc (.cells #[.slice A l.length ca, .slice D zs.length cd, .int .i64 x] 27)).alloc (.cells #[.int .i64 h, .int .i64 a, .int .i64 k, .string p, .int .i64 g, .int .i64 d] 34)).alloc (.cells #[.string ⟨#[]⟩, .int .i64 0] 115) = W at *
      obtain ⟨h1, h2, h3, h4, h5⟩ := H3.out
      obtain ⟨b0, b1, b2⟩ := Box3.cells (show Box3 27 W B _ _ _ from h1)
      obtain ⟨s0, s1, s2, s3, s4, s5⟩ := row6 h2
      have HZ := Lib.hid (show Box2 115 W (B + 2) (.string ⟨#[]⟩) (.int .i64 0) from h3)
      have HB0 := Lib.hid h4
      have hW0 : B < W.heap.size := by omega
      have hW1 : B + 1 < W.heap.size := by omega
      clear h1 h2 h3 h4
      refine (HI.out W HA.out HD.out).mono ?_; rintro e w1 ⟨rfl, hb1⟩
      have HB1 := Lib.hid (HB0.out.trans (hb1.mono (by omega)))
      have e0 := (hb1.cell (p := ⟨B, 0, none⟩) hW0).trans b0; have e1 := (hb1.cell (p := ⟨B, 1, none⟩) hW0).trans b1; have e2 := (hb1.cell (p := ⟨B, 2, none⟩) hW0).trans b2
      have f0 := (hb1.cell (p := ⟨B + 1, 0, none⟩) hW1).trans s0; have f1 := (hb1.cell (p := ⟨B + 1, 1, none⟩) hW1).trans s1; have f2 := (hb1.cell (p := ⟨B + 1, 2, none⟩) hW1).trans s2; have f3 := (hb1.cell (p := ⟨B + 1, 3, none⟩) hW1).trans s3; have f4 := (hb1.cell (p := ⟨B + 1, 4, none⟩) hW1).trans s4; have f5 := (hb1.cell (p := ⟨B + 1, 5, none⟩) hW1).trans s5
      have HA1 := Lib.hid (HA.out.below hb1); have HD1 := Lib.hid (HD.out.below hb1)
      have hX0 : B < w1.heap.size := by have := hb1.size; omega
      have hX1 : B + 1 < w1.heap.size := by have := hb1.size; omega
      have HZ1 := Lib.hid (HZ.out.below hb1)
      have hX2 : B + 2 < w1.heap.size := by have := hb1.size; omega
      clear b0 b1 b2 s0 s1 s2 s3 s4 s5 hb1 HA HD HB0 H3 HZ h5
      obtain ⟨r0, r1⟩ := HZ1.out.cells
      obtain ⟨z0, z1⟩ := HZ1.out.free
      have hne0 : ¬ B + 1 + 1 = B := by omega
      have HTW := Lib.hid (fun W' (hh : Below w1.heap.size w1 W') => HPL.out W' (HA1.out.below hh) (HD1.out.below hh))
      go_wp2_with fail
      go_region_held3 (fun w' => w'.cell? ⟨B, 0, none⟩ = some (.slice A l.length ca) ∧ w'.cell? ⟨B, 1, none⟩ = some (.slice D zs.length cd) ∧ w'.cell? ⟨B, 2, none⟩ = some (.int .i64 x) ∧ w'.cell? ⟨B + 1, 0, none⟩ = some (.int .i64 h) ∧ w'.cell? ⟨B + 1, 1, none⟩ = some (.int .i64 a) ∧ w'.cell? ⟨B + 1, 2, none⟩ = some (.int .i64 k) ∧ w'.cell? ⟨B + 1, 3, none⟩ = some (.string p) ∧ w'.cell? ⟨B + 1, 4, none⟩ = some (.int .i64 g) ∧ w'.cell? ⟨B + 1, 5, none⟩ = some (.int .i64 d))
        (go_keep)
        (first
          | (go_at_call 136; refine (HTW.out _ ?_).mono ?_; (focus (first | exact Below.refl _ _ | exact (Below.refl _ _).drew)); (rintro e u1 ⟨rfl, hu⟩; (first | (have hb2 : Below w1.heap.size w1 u1 := below_undrew hu) | (have hb2 : Below w1.heap.size w1 u1 := hu)); clear r0 r1 z0 z1; have g0 := (hb2.cell (p := ⟨B, 0, none⟩) hX0).trans e0; have g1 := (hb2.cell (p := ⟨B, 1, none⟩) hX0).trans e1; have g2 := (hb2.cell (p := ⟨B, 2, none⟩) hX0).trans e2; have g3 := (hb2.cell (p := ⟨B + 1, 0, none⟩) hX1).trans f0; have g4 := (hb2.cell (p := ⟨B + 1, 1, none⟩) hX1).trans f1; have g5 := (hb2.cell (p := ⟨B + 1, 2, none⟩) hX1).trans f2; have g6 := (hb2.cell (p := ⟨B + 1, 3, none⟩) hX1).trans f3; have g7 := (hb2.cell (p := ⟨B + 1, 4, none⟩) hX1).trans f4; have g8 := (hb2.cell (p := ⟨B + 1, 5, none⟩) hX1).trans f5; have R2 := Lib.hid (HZ1.out.below hb2); obtain ⟨r0, r1⟩ := R2.out.cells; obtain ⟨z0, z1⟩ := R2.out.free; have HB2 := Lib.hid (HB1.out.trans (hb2.mono (by omega))); have hz2 := hb2.size; clear hu))
          | fail)
      all_goals
        go_wp2
        refine bodyPost_ret (v := .agg #[.string E, .int .i64 a]) (by simp [results, Tryz.results94, go_sem, r0, r1]) rfl ⟨by rw [HV.out.1, HV.out.2], ?_⟩
        rw [HBE.out]
        first | exact (HB2.out.setCell (by dsimp only; omega) _).setCell (by dsimp only; omega) _ | exact (HB2.out.drew.setCell (by dsimp only; omega) _).setCell (by dsimp only; omega) _
end Go.Proofs.YtamlbiagjipedaaGreat
