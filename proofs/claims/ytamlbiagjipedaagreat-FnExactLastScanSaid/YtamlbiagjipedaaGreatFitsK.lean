/- The contract of impl.fitsKind. Written by mk/scanv.py. -/
import Derived.Test.YtamlbiagjipedaaGreatScM
import Derived.Test.YtamlbiagjipedaaGreatBg
import Derived.Deep.RegionHeld3
import Derived.BigQuiet
namespace Go.Proofs.YtamlbiagjipedaaGreat
open Go.RowKit
set_option maxRecDepth 100000 in
set_option maxHeartbeats 4000000 in
theorem fits_impl (h a k : Int) (p : ByteArray) (g d : Int) (A : Option Addr) (ca : Nat) (l : List Lg) (D : Option Addr) (cd : Nat) (zs : List Int) (x : Int) (w : World) (hA : InK 6 lgC w A l) (hD : IntsIn w D zs) (hs : ∀ z ∈ l, z.f.size ≤ maxLen ∧ z.t.size ≤ maxLen) (hn : l.length ≤ 1048576) (hm : zs.length ≤ 1048576) :
    Calls Tryz.prog 104 #[.agg #[.slice A l.length ca, .slice D zs.length cd, .int .i64 x], .agg #[.int .i64 h, .int .i64 a, .int .i64 k, .string p, .int .i64 g, .int .i64 d]] w fun e w' => e = .returned (.bool (kindB l zs x ⟨h, a, k, p, g, d⟩)) ∧ Below w.heap.size w w' := by
  have H2 := Lib.hid (two w (.cells #[.slice A l.length ca, .slice D zs.length cd, .int .i64 x] 27) (.cells #[.int .i64 h, .int .i64 a, .int .i64 k, .string p, .int .i64 g, .int .i64 d] 34))
  have HA := Lib.hid (hA.below H2.out.2.2.1); have HD := Lib.hid (hD.below H2.out.2.2.1); clear hA hD
  have HT := Lib.hid (fun W (h1 : InK 6 lgC W A l) (h2 : IntsIn W D zs) => is_trip g d A ca l D cd zs x W h1 h2 hs hn hm)
  have HST := Lib.hid (fun (htr : trB l zs x ⟨g, d⟩ = true) W (h1 : InK 6 lgC W A l) (h2 : IntsIn W D zs) => start_tp_impl ⟨g, d⟩ htr A ca D cd W h1 h2 hn)
  have HEN := Lib.hid (fun (htr : trB l zs x ⟨g, d⟩ = true) W (h1 : InK 6 lgC W A l) (h2 : IntsIn W D zs) => end_tp_impl ⟨g, d⟩ htr A ca D cd W h1 h2 hn)
  have HP := Lib.hid (fun W (h1 : InK 6 lgC W A l) => places_impl A ca l D cd zs.length x W h1 hn)
  have HL := Lib.hid (show (placesB l).length ≤ 4000000 by have := placesB_len l; omega)
  have HKH := Lib.hid (fun hk => kind_here (l := l) (zs := zs) (x := x) (r := ⟨h, a, k, p, g, d⟩) hk)
  have HKL := Lib.hid (fun hk => kind_load (l := l) (zs := zs) (x := x) (r := ⟨h, a, k, p, g, d⟩) hk)
  have HKD := Lib.hid (fun hk => kind_drop (l := l) (zs := zs) (x := x) (r := ⟨h, a, k, p, g, d⟩) hk)
  have HKN := Lib.hid (fun q1 q2 q3 q4 => kind_none (l := l) (zs := zs) (x := x) (r := ⟨h, a, k, p, g, d⟩) q1 q2 q3 q4)
  dsimp only at HKH HKL HKD HKN
  clear hs
  generalize kindB l zs x ⟨h, a, k, p, g, d⟩ = V at *
  by_cases k1 : k = 1
  · have t1 : (k == 1) = true := by simp [k1]
    have HV := Lib.hid (HKH.out (by omega)); clear k1; clear HKH HKL HKD HKN HT HST HEN
    by_cases q1 : g = 0 ∧ d = 0
    · obtain ⟨rfl, rfl⟩ := q1
      have HV2 := Lib.hid (HV.out.trans (by simp : (decide ((0:Int) = 0 ∧ (0:Int) = 0) && Lib.containsS (placesB l) p) = Lib.containsS (placesB l) p)); clear HV
      go_enter Tryz.func104, Tryz.ntmps104
      go_wp2_with fail
      generalize hB : w.heap.size = B at *
      have HBE := Lib.hid hB; clear hB
      generalize (w.alloc (.cells #[.slice A l.length ca, .slice D zs.length cd, .int .i64 x] 27)).alloc (.cells #[.int .i64 h, .int .i64 a, .int .i64 k, .string p, .int .i64 0, .int .i64 0] 34) = W at *
      obtain ⟨h1, h2, h3, h4⟩ := H2.out
      have hBn := Box3.cells (show Box3 27 W B _ _ _ from h1)
      obtain ⟨b0, b1, b2⟩ := hBn
      obtain ⟨s0, s1, s2, s3, s4, s5⟩ := row6 h2
      have HB0 := Lib.hid h3
      have hW0 : B < W.heap.size := by omega
      have hW1 : B + 1 < W.heap.size := by omega
      obtain ⟨WW, hWW⟩ : ∃ WW : World, WW = W := ⟨_, rfl⟩
      subst hWW
      clear h1 h2 h3 H2
      go_region_held3 (fun w' => w'.cell? ⟨B, 0, none⟩ = some (.slice A l.length ca) ∧ w'.cell? ⟨B, 1, none⟩ = some (.slice D zs.length cd) ∧ w'.cell? ⟨B, 2, none⟩ = some (.int .i64 x) ∧ w'.cell? ⟨B + 1, 3, none⟩ = some (.string p) ∧ w'.cell? ⟨B + 1, 4, none⟩ = some (.int .i64 0) ∧ w'.cell? ⟨B + 1, 5, none⟩ = some (.int .i64 0))
        (go_keep)
        (first
          | (go_at_call 124; refine (HP.out _ (HA.out.below ?_)).mono ?_; (focus (first | exact Below.refl _ _ | exact (Below.refl _ _).drew)); (rintro e u1 ⟨⟨v, rfl, hv⟩, hu⟩; (first | (have hb1 : Below WW.heap.size WW u1 := below_undrew hu) | (have hb1 : Below WW.heap.size WW u1 := hu)); have HC := Lib.hid (fun W' (hh : Below u1.heap.size u1 W') => contains_own (own_below hv hh) HL.out p); have e0 := (hb1.cell (p := ⟨B, 0, none⟩) hW0).trans b0; have e1 := (hb1.cell (p := ⟨B, 1, none⟩) hW0).trans b1; have e2 := (hb1.cell (p := ⟨B, 2, none⟩) hW0).trans b2; have e3 := (hb1.cell (p := ⟨B + 1, 3, none⟩) hW1).trans s3; have e4 := (hb1.cell (p := ⟨B + 1, 4, none⟩) hW1).trans s4; have e5 := (hb1.cell (p := ⟨B + 1, 5, none⟩) hW1).trans s5; clear hu hv))
          | (go_at_call 144; refine (HC.out _ ?_).mono ?_; (focus (first | exact Below.refl _ _ | exact (Below.refl _ _).drew)); (rintro e u2 ⟨rfl, rfl⟩))
          | fail)
      all_goals
        go_wp2
        go_ret
        exact ⟨ret_bool HV2.out.symm, by rw [HBE.out]; exact HB0.out.trans (Below.mono (by first | exact hb1 | exact hb1.drew) (by omega))⟩
    · have HV2 := Lib.hid (HV.out.trans (by rw [decide_eq_false q1]; rfl : (decide (g = 0 ∧ d = 0) && Lib.containsS (placesB l) p) = false)); clear HV HP HL
      have hEQ : ∀ W, Sem.run Tryz.prog (binOp BinOp.eql 32 (.agg #[.int .i64 g, .int .i64 d]) (.agg #[.int .i64 0, .int .i64 0])) W = .ok (.bool false) W := fun W => by
        rw [trip_eql]; by_cases e1 : g = 0 <;> by_cases e2 : d = 0 <;> simp_all
      go_enter Tryz.func104, Tryz.ntmps104
      go_wp2_with fail
      generalize hB : w.heap.size = B at *
      have HBE := Lib.hid hB; clear hB
      generalize (w.alloc (.cells #[.slice A l.length ca, .slice D zs.length cd, .int .i64 x] 27)).alloc (.cells #[.int .i64 h, .int .i64 a, .int .i64 k, .string p, .int .i64 g, .int .i64 d] 34) = W at *
      obtain ⟨h1, h2, h3, h4⟩ := H2.out
      have hBn := Box3.cells (show Box3 27 W B _ _ _ from h1)
      obtain ⟨b0, b1, b2⟩ := hBn
      obtain ⟨s0, s1, s2, s3, s4, s5⟩ := row6 h2
      have HB0 := Lib.hid h3
      have hW0 : B < W.heap.size := by omega
      have hW1 : B + 1 < W.heap.size := by omega
      have HF0 := far_cell hW0 b0; have HF1 := far_cell hW0 b1; have HF2 := far_cell hW0 b2; have HS1 := far_cell hW1 s1; have HS2 := far_cell hW1 s2; have HS3 := far_cell hW1 s3; have HS4 := far_cell hW1 s4; have HS5 := far_cell hW1 s5
      refine wp_region_far (by kernel_rfl) (by kernel_rfl) ?_
      repeat (any_goals (first | go_big_quiet_step (fail) | quiet_step (fail)))
      refine wpQuiet_nil ?_; intro w1 hw1
      have hbw1 : Below W.heap.size W w1 := by obtain ⟨u, rfl⟩ := hw1; exact below_far W u
      clear hw1
      go_wp2
      go_ret
      exact ⟨ret_bool HV2.out.symm, by rw [HBE.out]; exact HB0.out.trans (hbw1.mono (by omega))⟩
  by_cases k4 : k = 4
  · have t1 : (k == 1) = false := by simp [k1]
    have t4 : (k == 4) = true := by simp [k4]
    have HV := Lib.hid (HKH.out (by omega)); clear k4; clear HKH HKL HKD HKN HT HST HEN
    by_cases q1 : g = 0 ∧ d = 0
    · obtain ⟨rfl, rfl⟩ := q1
      have HV2 := Lib.hid (HV.out.trans (by simp : (decide ((0:Int) = 0 ∧ (0:Int) = 0) && Lib.containsS (placesB l) p) = Lib.containsS (placesB l) p)); clear HV
      go_enter Tryz.func104, Tryz.ntmps104
      go_wp2_with fail
      generalize hB : w.heap.size = B at *
      have HBE := Lib.hid hB; clear hB
      generalize (w.alloc (.cells #[.slice A l.length ca, .slice D zs.length cd, .int .i64 x] 27)).alloc (.cells #[.int .i64 h, .int .i64 a, .int .i64 k, .string p, .int .i64 0, .int .i64 0] 34) = W at *
      obtain ⟨h1, h2, h3, h4⟩ := H2.out
      have hBn := Box3.cells (show Box3 27 W B _ _ _ from h1)
      obtain ⟨b0, b1, b2⟩ := hBn
      obtain ⟨s0, s1, s2, s3, s4, s5⟩ := row6 h2
      have HB0 := Lib.hid h3
      have hW0 : B < W.heap.size := by omega
      have hW1 : B + 1 < W.heap.size := by omega
      obtain ⟨WW, hWW⟩ : ∃ WW : World, WW = W := ⟨_, rfl⟩
      subst hWW
      clear h1 h2 h3 H2
      go_region_held3 (fun w' => w'.cell? ⟨B, 0, none⟩ = some (.slice A l.length ca) ∧ w'.cell? ⟨B, 1, none⟩ = some (.slice D zs.length cd) ∧ w'.cell? ⟨B, 2, none⟩ = some (.int .i64 x) ∧ w'.cell? ⟨B + 1, 3, none⟩ = some (.string p) ∧ w'.cell? ⟨B + 1, 4, none⟩ = some (.int .i64 0) ∧ w'.cell? ⟨B + 1, 5, none⟩ = some (.int .i64 0))
        (go_keep)
        (first
          | (go_at_call 124; refine (HP.out _ (HA.out.below ?_)).mono ?_; (focus (first | exact Below.refl _ _ | exact (Below.refl _ _).drew)); (rintro e u1 ⟨⟨v, rfl, hv⟩, hu⟩; (first | (have hb1 : Below WW.heap.size WW u1 := below_undrew hu) | (have hb1 : Below WW.heap.size WW u1 := hu)); have HC := Lib.hid (fun W' (hh : Below u1.heap.size u1 W') => contains_own (own_below hv hh) HL.out p); have e0 := (hb1.cell (p := ⟨B, 0, none⟩) hW0).trans b0; have e1 := (hb1.cell (p := ⟨B, 1, none⟩) hW0).trans b1; have e2 := (hb1.cell (p := ⟨B, 2, none⟩) hW0).trans b2; have e3 := (hb1.cell (p := ⟨B + 1, 3, none⟩) hW1).trans s3; have e4 := (hb1.cell (p := ⟨B + 1, 4, none⟩) hW1).trans s4; have e5 := (hb1.cell (p := ⟨B + 1, 5, none⟩) hW1).trans s5; clear hu hv))
          | (go_at_call 144; refine (HC.out _ ?_).mono ?_; (focus (first | exact Below.refl _ _ | exact (Below.refl _ _).drew)); (rintro e u2 ⟨rfl, rfl⟩))
          | fail)
      all_goals
        go_wp2
        go_ret
        exact ⟨ret_bool HV2.out.symm, by rw [HBE.out]; exact HB0.out.trans (Below.mono (by first | exact hb1 | exact hb1.drew) (by omega))⟩
    · have HV2 := Lib.hid (HV.out.trans (by rw [decide_eq_false q1]; rfl : (decide (g = 0 ∧ d = 0) && Lib.containsS (placesB l) p) = false)); clear HV HP HL
      have hEQ : ∀ W, Sem.run Tryz.prog (binOp BinOp.eql 32 (.agg #[.int .i64 g, .int .i64 d]) (.agg #[.int .i64 0, .int .i64 0])) W = .ok (.bool false) W := fun W => by
        rw [trip_eql]; by_cases e1 : g = 0 <;> by_cases e2 : d = 0 <;> simp_all
      go_enter Tryz.func104, Tryz.ntmps104
      go_wp2_with fail
      generalize hB : w.heap.size = B at *
      have HBE := Lib.hid hB; clear hB
      generalize (w.alloc (.cells #[.slice A l.length ca, .slice D zs.length cd, .int .i64 x] 27)).alloc (.cells #[.int .i64 h, .int .i64 a, .int .i64 k, .string p, .int .i64 g, .int .i64 d] 34) = W at *
      obtain ⟨h1, h2, h3, h4⟩ := H2.out
      have hBn := Box3.cells (show Box3 27 W B _ _ _ from h1)
      obtain ⟨b0, b1, b2⟩ := hBn
      obtain ⟨s0, s1, s2, s3, s4, s5⟩ := row6 h2
      have HB0 := Lib.hid h3
      have hW0 : B < W.heap.size := by omega
      have hW1 : B + 1 < W.heap.size := by omega
      have HF0 := far_cell hW0 b0; have HF1 := far_cell hW0 b1; have HF2 := far_cell hW0 b2; have HS1 := far_cell hW1 s1; have HS2 := far_cell hW1 s2; have HS3 := far_cell hW1 s3; have HS4 := far_cell hW1 s4; have HS5 := far_cell hW1 s5
      refine wp_region_far (by kernel_rfl) (by kernel_rfl) ?_
      repeat (any_goals (first | go_big_quiet_step (fail) | quiet_step (fail)))
      refine wpQuiet_nil ?_; intro w1 hw1
      have hbw1 : Below W.heap.size W w1 := by obtain ⟨u, rfl⟩ := hw1; exact below_far W u
      clear hw1
      go_wp2
      go_ret
      exact ⟨ret_bool HV2.out.symm, by rw [HBE.out]; exact HB0.out.trans (hbw1.mono (by omega))⟩
  by_cases k3 : k = 3
  · have t1 : (k == 1) = false := by simp [k3]
    have t4 : (k == 4) = false := by simp [k3]
    have t3 : (k == 3) = true := by simp [k3]
    have HV := Lib.hid (HKL.out k3); clear k3; clear HKH HKL HKD HKN HP HL
    by_cases q1 : p = ⟨#[]⟩
    · subst q1
      cases hR : trB l zs x ⟨g, d⟩ with
      | false =>
        have HV2 := Lib.hid (HV.out.trans (by rw [hR, Bool.false_and, Bool.and_false])); clear HV HST HEN
        rw [show ronB l zs x g d = false from hR] at HT
        clear hR
        go_enter Tryz.func104, Tryz.ntmps104
        go_wp2_with fail
        generalize hB : w.heap.size = B at *
        have HBE := Lib.hid hB; clear hB
        generalize (w.alloc (.cells #[.slice A l.length ca, .slice D zs.length cd, .int .i64 x] 27)).alloc (.cells #[.int .i64 h, .int .i64 a, .int .i64 k, .string ⟨#[]⟩, .int .i64 g, .int .i64 d] 34) = W at *
        obtain ⟨h1, h2, h3, h4⟩ := H2.out
        have hBn := Box3.cells (show Box3 27 W B _ _ _ from h1)
        obtain ⟨b0, b1, b2⟩ := hBn
        obtain ⟨s0, s1, s2, s3, s4, s5⟩ := row6 h2
        have HB0 := Lib.hid h3
        have hW0 : B < W.heap.size := by omega
        have hW1 : B + 1 < W.heap.size := by omega
        have HF0 := far_cell hW0 b0; have HF1 := far_cell hW0 b1; have HF2 := far_cell hW0 b2; have HS1 := far_cell hW1 s1; have HS2 := far_cell hW1 s2; have HS3 := far_cell hW1 s3; have HS4 := far_cell hW1 s4; have HS5 := far_cell hW1 s5
        have HTF := Lib.hid (fun x' => HT.out (far W x') (HA.out.below (below_far W x')) (HD.out.below (below_far W x')))
        refine wp_region_far (by kernel_rfl) (by kernel_rfl) ?_
        repeat (any_goals (first | go_big_quiet_step ((first | (go_at_call 145; with_reducible exact call_far (HTF.out _)))) | quiet_step ((first | (go_at_call 145; with_reducible exact call_far (HTF.out _))))))
        refine wpQuiet_nil ?_; intro w1 hw1
        have hbw1 : Below W.heap.size W w1 := by obtain ⟨u, rfl⟩ := hw1; exact below_far W u
        clear hw1
        go_wp2
        go_ret
        exact ⟨ret_bool HV2.out.symm, by rw [HBE.out]; exact HB0.out.trans (hbw1.mono (by omega))⟩
      | true =>
        have HSX := Lib.hid (HST.out hR)
        have HV1 := Lib.hid (HV.out.trans (by rw [hR, Bool.true_and, decide_eq_true (rfl : (⟨#[]⟩ : ByteArray) = ⟨#[]⟩), Bool.true_and])); clear HV HST HEN
        rw [show ronB l zs x g d = true from hR] at HT
        clear hR
        generalize trS l ⟨g, d⟩ = S at *
        have HV2 := HV1; clear HV1
        go_enter Tryz.func104, Tryz.ntmps104
        go_wp2_with fail
        generalize hB : w.heap.size = B at *
        have HBE := Lib.hid hB; clear hB
        generalize (w.alloc (.cells #[.slice A l.length ca, .slice D zs.length cd, .int .i64 x] 27)).alloc (.cells #[.int .i64 h, .int .i64 a, .int .i64 k, .string ⟨#[]⟩, .int .i64 g, .int .i64 d] 34) = W at *
        obtain ⟨h1, h2, h3, h4⟩ := H2.out
        have hBn := Box3.cells (show Box3 27 W B _ _ _ from h1)
        obtain ⟨b0, b1, b2⟩ := hBn
        obtain ⟨s0, s1, s2, s3, s4, s5⟩ := row6 h2
        have HB0 := Lib.hid h3
        have hW0 : B < W.heap.size := by omega
        have hW1 : B + 1 < W.heap.size := by omega
        have HF0 := far_cell hW0 b0; have HF1 := far_cell hW0 b1; have HF2 := far_cell hW0 b2; have HS1 := far_cell hW1 s1; have HS2 := far_cell hW1 s2; have HS3 := far_cell hW1 s3; have HS4 := far_cell hW1 s4; have HS5 := far_cell hW1 s5
        have HTF := Lib.hid (fun x' => HT.out (far W x') (HA.out.below (below_far W x')) (HD.out.below (below_far W x')))
        have HSF := Lib.hid (fun x' => HSX.out (far W x') (HA.out.below (below_far W x')) (HD.out.below (below_far W x')))
        refine wp_region_far (by kernel_rfl) (by kernel_rfl) ?_
        repeat (any_goals (first | go_big_quiet_step ((first | (go_at_call 145; with_reducible exact call_far (HTF.out _)) | (go_at_call 146; with_reducible exact call_far (HSF.out _)))) | quiet_step ((first | (go_at_call 145; with_reducible exact call_far (HTF.out _)) | (go_at_call 146; with_reducible exact call_far (HSF.out _))))))
        refine wpQuiet_nil ?_; intro w1 hw1
        have hbw1 : Below W.heap.size W w1 := by obtain ⟨u, rfl⟩ := hw1; exact below_far W u
        clear hw1
        go_wp2
        go_ret
        exact ⟨ret_bool HV2.out.symm, by rw [HBE.out]; exact HB0.out.trans (hbw1.mono (by omega))⟩
    · have hps := str_emp q1
      have HV2 := Lib.hid (HV.out.trans (by rw [decide_eq_false q1, Bool.false_and])); clear HV HST HEN HT q1
      go_enter Tryz.func104, Tryz.ntmps104
      go_wp2_with fail
      generalize hB : w.heap.size = B at *
      have HBE := Lib.hid hB; clear hB
      generalize (w.alloc (.cells #[.slice A l.length ca, .slice D zs.length cd, .int .i64 x] 27)).alloc (.cells #[.int .i64 h, .int .i64 a, .int .i64 k, .string p, .int .i64 g, .int .i64 d] 34) = W at *
      obtain ⟨h1, h2, h3, h4⟩ := H2.out
      have hBn := Box3.cells (show Box3 27 W B _ _ _ from h1)
      obtain ⟨b0, b1, b2⟩ := hBn
      obtain ⟨s0, s1, s2, s3, s4, s5⟩ := row6 h2
      have HB0 := Lib.hid h3
      have hW0 : B < W.heap.size := by omega
      have hW1 : B + 1 < W.heap.size := by omega
      have HF0 := far_cell hW0 b0; have HF1 := far_cell hW0 b1; have HF2 := far_cell hW0 b2; have HS1 := far_cell hW1 s1; have HS2 := far_cell hW1 s2; have HS3 := far_cell hW1 s3; have HS4 := far_cell hW1 s4; have HS5 := far_cell hW1 s5
      refine wp_region_far (by kernel_rfl) (by kernel_rfl) ?_
      repeat (any_goals (first | go_big_quiet_step (fail) | quiet_step (fail)))
      refine wpQuiet_nil ?_; intro w1 hw1
      have hbw1 : Below W.heap.size W w1 := by obtain ⟨u, rfl⟩ := hw1; exact below_far W u
      clear hw1
      go_wp2
      go_ret
      exact ⟨ret_bool HV2.out.symm, by rw [HBE.out]; exact HB0.out.trans (hbw1.mono (by omega))⟩
  by_cases k2 : k = 2
  · have t1 : (k == 1) = false := by simp [k2]
    have t4 : (k == 4) = false := by simp [k2]
    have t3 : (k == 3) = false := by simp [k2]
    have t2 : (k == 2) = true := by simp [k2]
    have HV := Lib.hid (HKD.out k2); clear k2; clear HKH HKL HKD HKN HP HL
    by_cases q1 : p = ⟨#[]⟩
    · subst q1
      cases hR : trB l zs x ⟨g, d⟩ with
      | false =>
        have HV2 := Lib.hid (HV.out.trans (by rw [hR, Bool.false_and, Bool.and_false])); clear HV HST HEN
        rw [show ronB l zs x g d = false from hR] at HT
        clear hR
        go_enter Tryz.func104, Tryz.ntmps104
        go_wp2_with fail
        generalize hB : w.heap.size = B at *
        have HBE := Lib.hid hB; clear hB
        generalize (w.alloc (.cells #[.slice A l.length ca, .slice D zs.length cd, .int .i64 x] 27)).alloc (.cells #[.int .i64 h, .int .i64 a, .int .i64 k, .string ⟨#[]⟩, .int .i64 g, .int .i64 d] 34) = W at *
        obtain ⟨h1, h2, h3, h4⟩ := H2.out
        have hBn := Box3.cells (show Box3 27 W B _ _ _ from h1)
        obtain ⟨b0, b1, b2⟩ := hBn
        obtain ⟨s0, s1, s2, s3, s4, s5⟩ := row6 h2
        have HB0 := Lib.hid h3
        have hW0 : B < W.heap.size := by omega
        have hW1 : B + 1 < W.heap.size := by omega
        have HF0 := far_cell hW0 b0; have HF1 := far_cell hW0 b1; have HF2 := far_cell hW0 b2; have HS1 := far_cell hW1 s1; have HS2 := far_cell hW1 s2; have HS3 := far_cell hW1 s3; have HS4 := far_cell hW1 s4; have HS5 := far_cell hW1 s5
        have HTF := Lib.hid (fun x' => HT.out (far W x') (HA.out.below (below_far W x')) (HD.out.below (below_far W x')))
        refine wp_region_far (by kernel_rfl) (by kernel_rfl) ?_
        repeat (any_goals (first | go_big_quiet_step ((first | (go_at_call 145; with_reducible exact call_far (HTF.out _)))) | quiet_step ((first | (go_at_call 145; with_reducible exact call_far (HTF.out _))))))
        refine wpQuiet_nil ?_; intro w1 hw1
        have hbw1 : Below W.heap.size W w1 := by obtain ⟨u, rfl⟩ := hw1; exact below_far W u
        clear hw1
        go_wp2
        go_ret
        exact ⟨ret_bool HV2.out.symm, by rw [HBE.out]; exact HB0.out.trans (hbw1.mono (by omega))⟩
      | true =>
        have HSX := Lib.hid (HEN.out hR)
        have HV1 := Lib.hid (HV.out.trans (by rw [hR, Bool.true_and, decide_eq_true (rfl : (⟨#[]⟩ : ByteArray) = ⟨#[]⟩), Bool.true_and])); clear HV HST HEN
        rw [show ronB l zs x g d = true from hR] at HT
        clear hR
        generalize trE l ⟨g, d⟩ = S at *
        have HV2 := HV1; clear HV1
        go_enter Tryz.func104, Tryz.ntmps104
        go_wp2_with fail
        generalize hB : w.heap.size = B at *
        have HBE := Lib.hid hB; clear hB
        generalize (w.alloc (.cells #[.slice A l.length ca, .slice D zs.length cd, .int .i64 x] 27)).alloc (.cells #[.int .i64 h, .int .i64 a, .int .i64 k, .string ⟨#[]⟩, .int .i64 g, .int .i64 d] 34) = W at *
        obtain ⟨h1, h2, h3, h4⟩ := H2.out
        have hBn := Box3.cells (show Box3 27 W B _ _ _ from h1)
        obtain ⟨b0, b1, b2⟩ := hBn
        obtain ⟨s0, s1, s2, s3, s4, s5⟩ := row6 h2
        have HB0 := Lib.hid h3
        have hW0 : B < W.heap.size := by omega
        have hW1 : B + 1 < W.heap.size := by omega
        have HF0 := far_cell hW0 b0; have HF1 := far_cell hW0 b1; have HF2 := far_cell hW0 b2; have HS1 := far_cell hW1 s1; have HS2 := far_cell hW1 s2; have HS3 := far_cell hW1 s3; have HS4 := far_cell hW1 s4; have HS5 := far_cell hW1 s5
        have HTF := Lib.hid (fun x' => HT.out (far W x') (HA.out.below (below_far W x')) (HD.out.below (below_far W x')))
        have HSF := Lib.hid (fun x' => HSX.out (far W x') (HA.out.below (below_far W x')) (HD.out.below (below_far W x')))
        refine wp_region_far (by kernel_rfl) (by kernel_rfl) ?_
        repeat (any_goals (first | go_big_quiet_step ((first | (go_at_call 145; with_reducible exact call_far (HTF.out _)) | (go_at_call 126; with_reducible exact call_far (HSF.out _)))) | quiet_step ((first | (go_at_call 145; with_reducible exact call_far (HTF.out _)) | (go_at_call 126; with_reducible exact call_far (HSF.out _))))))
        refine wpQuiet_nil ?_; intro w1 hw1
        have hbw1 : Below W.heap.size W w1 := by obtain ⟨u, rfl⟩ := hw1; exact below_far W u
        clear hw1
        go_wp2
        go_ret
        exact ⟨ret_bool HV2.out.symm, by rw [HBE.out]; exact HB0.out.trans (hbw1.mono (by omega))⟩
    · have hps := str_emp q1
      have HV2 := Lib.hid (HV.out.trans (by rw [decide_eq_false q1, Bool.false_and])); clear HV HST HEN HT q1
      go_enter Tryz.func104, Tryz.ntmps104
      go_wp2_with fail
      generalize hB : w.heap.size = B at *
      have HBE := Lib.hid hB; clear hB
      generalize (w.alloc (.cells #[.slice A l.length ca, .slice D zs.length cd, .int .i64 x] 27)).alloc (.cells #[.int .i64 h, .int .i64 a, .int .i64 k, .string p, .int .i64 g, .int .i64 d] 34) = W at *
      obtain ⟨h1, h2, h3, h4⟩ := H2.out
      have hBn := Box3.cells (show Box3 27 W B _ _ _ from h1)
      obtain ⟨b0, b1, b2⟩ := hBn
      obtain ⟨s0, s1, s2, s3, s4, s5⟩ := row6 h2
      have HB0 := Lib.hid h3
      have hW0 : B < W.heap.size := by omega
      have hW1 : B + 1 < W.heap.size := by omega
      have HF0 := far_cell hW0 b0; have HF1 := far_cell hW0 b1; have HF2 := far_cell hW0 b2; have HS1 := far_cell hW1 s1; have HS2 := far_cell hW1 s2; have HS3 := far_cell hW1 s3; have HS4 := far_cell hW1 s4; have HS5 := far_cell hW1 s5
      refine wp_region_far (by kernel_rfl) (by kernel_rfl) ?_
      repeat (any_goals (first | go_big_quiet_step (fail) | quiet_step (fail)))
      refine wpQuiet_nil ?_; intro w1 hw1
      have hbw1 : Below W.heap.size W w1 := by obtain ⟨u, rfl⟩ := hw1; exact below_far W u
      clear hw1
      go_wp2
      go_ret
      exact ⟨ret_bool HV2.out.symm, by rw [HBE.out]; exact HB0.out.trans (hbw1.mono (by omega))⟩
  have t1 : (k == 1) = false := by simp [k1]
  have t2 : (k == 2) = false := by simp [k2]
  have t3 : (k == 3) = false := by simp [k3]
  have t4 : (k == 4) = false := by simp [k4]
  have HV2 := Lib.hid (HKN.out k1 k2 k3 k4)
  have HB0 := Lib.hid H2.out.2.2.1
  clear HKH HKL HKD HKN HT HST HEN HP HL k1 k2 k3 k4 H2 HA HD
  go_enter Tryz.func104, Tryz.ntmps104
  go_wp2
  go_ret
  exact ⟨ret_bool HV2.out.symm, HB0.out⟩
end Go.Proofs.YtamlbiagjipedaaGreat
