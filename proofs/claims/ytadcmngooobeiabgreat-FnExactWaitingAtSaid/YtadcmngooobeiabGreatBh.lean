/- Several texts in one: ScM FitsK IsSc IsScS SpM PlSc SpB SpA. -/
import Derived.Test.YtadcmngooobeiabGreatBg
import Derived.Test.YtadcmngooobeiabGreatBe
import Derived.Test.YtadcmngooobeiabGreatBd
import Derived.Deep.RegionHeld3
import Derived.BigQuiet
import Derived.Test.YtadcmngooobeiabGreatPlS
import Derived.Test.YtadcmngooobeiabGreatBc
/- The plain mathematics of scans. Written by mk/scanv.py. -/
namespace Go.Proofs.YtadcmngooobeiabGreat
open Go.RowKit
/-- Place, Trip and At are as the kind demands -/
def kindB (l : List Lg) (zs : List Int) (x : Int) (r : Sc) : Bool :=
  if r.k = 1 ∨ r.k = 4 then decide (r.g = 0 ∧ r.d = 0) && Lib.containsS (placesB l) r.p
  else if r.k = 3 then decide (r.p = ⟨#[]⟩) && (trB l zs x ⟨r.g, r.d⟩ && decide (r.a ≤ trS l ⟨r.g, r.d⟩))
  else if r.k = 2 then decide (r.p = ⟨#[]⟩) && (trB l zs x ⟨r.g, r.d⟩ && decide (trE l ⟨r.g, r.d⟩ ≤ r.a))
  else false
def scB (l : List Lg) (zs : List Int) (x : Int) (r : Sc) : Bool := netB l zs x && (decide (1 ≤ r.h ∧ r.h ≤ 9999) && (decide (0 ≤ r.a ∧ r.a ≤ 100000) && kindB l zs x r))
theorem str_emp {p : ByteArray} (h : ¬ p = ⟨#[]⟩) : p.toList.isEmpty = false := by
  cases e : p.toList.isEmpty with
  | false => rfl
  | true =>
    refine absurd ?_ h
    rw [ByteArray.toList_eq, List.isEmpty_iff] at e
    obtain ⟨⟨q⟩⟩ := p
    exact congrArg (fun l => (⟨⟨l⟩⟩ : ByteArray)) e
theorem kind_here {l : List Lg} {zs : List Int} {x : Int} {r : Sc} (h : r.k = 1 ∨ r.k = 4) : kindB l zs x r = (decide (r.g = 0 ∧ r.d = 0) && Lib.containsS (placesB l) r.p) := if_pos h
theorem kind_load {l : List Lg} {zs : List Int} {x : Int} {r : Sc} (h : r.k = 3) : kindB l zs x r = (decide (r.p = ⟨#[]⟩) && (trB l zs x ⟨r.g, r.d⟩ && decide (r.a ≤ trS l ⟨r.g, r.d⟩))) := by
  unfold kindB; rw [if_neg (by omega), if_pos h]
theorem kind_drop {l : List Lg} {zs : List Int} {x : Int} {r : Sc} (h : r.k = 2) : kindB l zs x r = (decide (r.p = ⟨#[]⟩) && (trB l zs x ⟨r.g, r.d⟩ && decide (trE l ⟨r.g, r.d⟩ ≤ r.a))) := by
  unfold kindB; rw [if_neg (by omega), if_neg (by omega), if_pos h]
theorem kind_none {l : List Lg} {zs : List Int} {x : Int} {r : Sc} (h1 : r.k ≠ 1) (h2 : r.k ≠ 2) (h3 : r.k ≠ 3) (h4 : r.k ≠ 4) : kindB l zs x r = false := by
  unfold kindB; rw [if_neg (by omega), if_neg (by omega), if_neg (by omega)]
theorem scB_iff {l : List Lg} {zs : List Int} {x : Int} {r : Sc} : scB l zs x r = true ↔ netB l zs x = true ∧ (1 ≤ r.h ∧ r.h ≤ 9999) ∧ (0 ≤ r.a ∧ r.a ≤ 100000) ∧ kindB l zs x r = true := by
  unfold scB; simp only [Bool.and_eq_true, decide_eq_true_eq]
/-- what a valid scan of a trip is -/
theorem sc_trip {l : List Lg} {zs : List Int} {x : Int} {r : Sc} (h : scB l zs x r = true) (hk : r.k = 2 ∨ r.k = 3) : trB l zs x ⟨r.g, r.d⟩ = true := by
  have h1 := (scB_iff.1 h).2.2.2
  rcases hk with e | e
  · rw [kind_drop e] at h1; simp only [Bool.and_eq_true] at h1; exact h1.2.1
  · rw [kind_load e] at h1; simp only [Bool.and_eq_true] at h1; exact h1.2.1
theorem sc_kind {l : List Lg} {zs : List Int} {x : Int} {r : Sc} (h : scB l zs x r = true) : r.k = 1 ∨ r.k = 2 ∨ r.k = 3 ∨ r.k = 4 := by
  have h1 := (scB_iff.1 h).2.2.2
  by_cases h2 : r.k = 1 ∨ r.k = 2 ∨ r.k = 3 ∨ r.k = 4
  · exact h2
  · rw [kind_none (by omega) (by omega) (by omega) (by omega)] at h1; cases h1
end Go.Proofs.YtadcmngooobeiabGreat

/- The contract of impl.fitsKind. Written by mk/scanv.py. -/
namespace Go.Proofs.YtadcmngooobeiabGreat
open Go.RowKit
set_option maxRecDepth 100000 in
set_option maxHeartbeats 4000000 in
theorem fits_impl (h a k : Int) (p : ByteArray) (g d : Int) (A : Option Addr) (ca : Nat) (l : List Lg) (D : Option Addr) (cd : Nat) (zs : List Int) (x : Int) (w : World) (hA : InK 6 lgC w A l) (hD : IntsIn w D zs) (hs : ∀ z ∈ l, z.f.size ≤ maxLen ∧ z.t.size ≤ maxLen) (hn : l.length ≤ 1048576) (hm : zs.length ≤ 1048576) :
    Calls Tryz.prog 119 #[.agg #[.slice A l.length ca, .slice D zs.length cd, .int .i64 x], .agg #[.int .i64 h, .int .i64 a, .int .i64 k, .string p, .int .i64 g, .int .i64 d]] w fun e w' => e = .returned (.bool (kindB l zs x ⟨h, a, k, p, g, d⟩)) ∧ Below w.heap.size w w' := by
  have H2 := Lib.hid (two w (.cells #[.slice A l.length ca, .slice D zs.length cd, .int .i64 x] 36) (.cells #[.int .i64 h, .int .i64 a, .int .i64 k, .string p, .int .i64 g, .int .i64 d] 102))
  have HA := Lib.hid (hA.below H2.out.2.2.1); have HD := Lib.hid (hD.below H2.out.2.2.1); clear hA hD
  have HT := Lib.hid (fun W (h1 : InK 6 lgC W A l) (h2 : IntsIn W D zs) => is_trip g d A ca l D cd zs x W h1 h2 hs hn hm)
  have HST := Lib.hid (fun (htr : trB l zs x ⟨g, d⟩ = true) W (h1 : InK 6 lgC W A l) (h2 : IntsIn W D zs) => start_tp_impl ⟨g, d⟩ htr A ca D cd W h1 h2 hn)
  have HEN := Lib.hid (fun (htr : trB l zs x ⟨g, d⟩ = true) W (h1 : InK 6 lgC W A l) (h2 : IntsIn W D zs) => end_tp_impl ⟨g, d⟩ htr A ca D cd W h1 h2 hn)
  have HP := Lib.hid (fun W (h1 : InK 6 lgC W A l) => places_impl A ca l D cd zs.length x W h1 hn)
  have HL := Lib.hid (show (placesB l).length ≤ 4000000 by have := placesB_len l; omega)
  have HKH := Lib.hid (fun hk => kind_here (l := l) (zs := zs) (x := x) (r := ⟨h, a, k, p, g, d⟩) hk)
  have HKL := Lib.hid (fun hk => kind_load (l := l) (zs := zs) (x := x) (r := ⟨h, a, k, p, g, d⟩) hk)
  have HKD := Lib.hid (fun hk => kind_drop (l := l) (zs := zs) (x := x) (r := ⟨h, a, k, p, g, d⟩) hk)
  have HKN := Lib.hid (fun q1 q2 q3 q4 => kind_none (l := l) (zs := zs) (x := x) (r := ⟨h, a, k, p, g, d⟩) q1 q2 q3 q4)
  dsimp only at HKH HKL HKD HKN
  clear hs
  generalize kindB l zs x ⟨h, a, k, p, g, d⟩ = V at *
  by_cases k1 : k = 1
  · have t1 : (k == 1) = true := by simp [k1]
    have HV := Lib.hid (HKH.out (by omega)); clear k1; clear HKH HKL HKD HKN HT HST HEN
    by_cases q1 : g = 0 ∧ d = 0
    · obtain ⟨rfl, rfl⟩ := q1
      have HV2 := Lib.hid (HV.out.trans (by simp : (decide ((0:Int) = 0 ∧ (0:Int) = 0) && Lib.containsS (placesB l) p) = Lib.containsS (placesB l) p)); clear HV
      go_enter Tryz.func119, Tryz.ntmps119
      go_wp2_with fail
      generalize hB : w.heap.size = B at *
      have HBE := Lib.hid hB; clear hB
      generalize (w.alloc (.cells #[.slice A l.length ca, .slice D zs.length cd, .int .i64 x] 36)).alloc (.cells #[.int .i64 h, .int .i64 a, .int .i64 k, .string p, .int .i64 0, .int .i64 0] 102) = W at *
      obtain ⟨h1, h2, h3, h4⟩ := H2.out
      have hBn := Box3.cells (show Box3 36 W B _ _ _ from h1)
      obtain ⟨b0, b1, b2⟩ := hBn
      obtain ⟨s0, s1, s2, s3, s4, s5⟩ := row6 h2
      have HB0 := Lib.hid h3
      have hW0 : B < W.heap.size := by omega
      have hW1 : B + 1 < W.heap.size := by omega
      obtain ⟨WW, hWW⟩ : ∃ WW : World, WW = W := ⟨_, rfl⟩
      subst hWW
      clear h1 h2 h3 H2
      go_region_held3 (fun w' => w'.cell? ⟨B, 0, none⟩ = some (.slice A l.length ca) ∧ w'.cell? ⟨B, 1, none⟩ = some (.slice D zs.length cd) ∧ w'.cell? ⟨B, 2, none⟩ = some (.int .i64 x) ∧ w'.cell? ⟨B + 1, 3, none⟩ = some (.string p) ∧ w'.cell? ⟨B + 1, 4, none⟩ = some (.int .i64 0) ∧ w'.cell? ⟨B + 1, 5, none⟩ = some (.int .i64 0))
        (go_keep)
        (first
          | (go_at_call 120; refine (HP.out _ (HA.out.below ?_)).mono ?_; (focus (first | exact Below.refl _ _ | exact (Below.refl _ _).drew)); (rintro e u1 ⟨⟨v, rfl, hv⟩, hu⟩; (first | (have hb1 : Below WW.heap.size WW u1 := below_undrew hu) | (have hb1 : Below WW.heap.size WW u1 := hu)); have HC := Lib.hid (fun W' (hh : Below u1.heap.size u1 W') => contains_own (own_below hv hh) HL.out p); have e0 := (hb1.cell (p := ⟨B, 0, none⟩) hW0).trans b0; have e1 := (hb1.cell (p := ⟨B, 1, none⟩) hW0).trans b1; have e2 := (hb1.cell (p := ⟨B, 2, none⟩) hW0).trans b2; have e3 := (hb1.cell (p := ⟨B + 1, 3, none⟩) hW1).trans s3; have e4 := (hb1.cell (p := ⟨B + 1, 4, none⟩) hW1).trans s4; have e5 := (hb1.cell (p := ⟨B + 1, 5, none⟩) hW1).trans s5; clear hu hv))
          | (go_at_call 121; refine (HC.out _ ?_).mono ?_; (focus (first | exact Below.refl _ _ | exact (Below.refl _ _).drew)); (rintro e u2 ⟨rfl, rfl⟩))
          | fail)
      all_goals
        go_wp2
        go_ret
        exact ⟨ret_bool HV2.out.symm, by rw [HBE.out]; exact HB0.out.trans (Below.mono (by first | exact hb1 | exact hb1.drew) (by omega))⟩
    · have HV2 := Lib.hid (HV.out.trans (by rw [decide_eq_false q1]; rfl : (decide (g = 0 ∧ d = 0) && Lib.containsS (placesB l) p) = false)); clear HV HP HL
      have hEQ : ∀ W, Sem.run Tryz.prog (binOp BinOp.eql 52 (.agg #[.int .i64 g, .int .i64 d]) (.agg #[.int .i64 0, .int .i64 0])) W = .ok (.bool false) W := fun W => by
        rw [trip_eql]; by_cases e1 : g = 0 <;> by_cases e2 : d = 0 <;> simp_all
      go_enter Tryz.func119, Tryz.ntmps119
      go_wp2_with fail
      generalize hB : w.heap.size = B at *
      have HBE := Lib.hid hB; clear hB
      generalize (w.alloc (.cells #[.slice A l.length ca, .slice D zs.length cd, .int .i64 x] 36)).alloc (.cells #[.int .i64 h, .int .i64 a, .int .i64 k, .string p, .int .i64 g, .int .i64 d] 102) = W at *
      obtain ⟨h1, h2, h3, h4⟩ := H2.out
      have hBn := Box3.cells (show Box3 36 W B _ _ _ from h1)
      obtain ⟨b0, b1, b2⟩ := hBn
      obtain ⟨s0, s1, s2, s3, s4, s5⟩ := row6 h2
      have HB0 := Lib.hid h3
      have hW0 : B < W.heap.size := by omega
      have hW1 : B + 1 < W.heap.size := by omega
      have HF0 := far_cell hW0 b0; have HF1 := far_cell hW0 b1; have HF2 := far_cell hW0 b2; have HS1 := far_cell hW1 s1; have HS2 := far_cell hW1 s2; have HS3 := far_cell hW1 s3; have HS4 := far_cell hW1 s4; have HS5 := far_cell hW1 s5
      refine wp_region_far (by kernel_rfl) (by kernel_rfl) ?_
      repeat (any_goals (first | go_big_quiet_step (fail) | quiet_step (fail)))
      refine wpQuiet_nil ?_; intro w1 hw1
      have hbw1 : Below W.heap.size W w1 := by obtain ⟨u, rfl⟩ := hw1; exact below_far W u
      clear hw1
      go_wp2
      go_ret
      exact ⟨ret_bool HV2.out.symm, by rw [HBE.out]; exact HB0.out.trans (hbw1.mono (by omega))⟩
  by_cases k4 : k = 4
  · have t1 : (k == 1) = false := by simp [k1]
    have t4 : (k == 4) = true := by simp [k4]
    have HV := Lib.hid (HKH.out (by omega)); clear k4; clear HKH HKL HKD HKN HT HST HEN
    by_cases q1 : g = 0 ∧ d = 0
    · obtain ⟨rfl, rfl⟩ := q1
      have HV2 := Lib.hid (HV.out.trans (by simp : (decide ((0:Int) = 0 ∧ (0:Int) = 0) && Lib.containsS (placesB l) p) = Lib.containsS (placesB l) p)); clear HV
      go_enter Tryz.func119, Tryz.ntmps119
      go_wp2_with fail
      generalize hB : w.heap.size = B at *
      have HBE := Lib.hid hB; clear hB
      generalize (w.alloc (.cells #[.slice A l.length ca, .slice D zs.length cd, .int .i64 x] 36)).alloc (.cells #[.int .i64 h, .int .i64 a, .int .i64 k, .string p, .int .i64 0, .int .i64 0] 102) = W at *
      obtain ⟨h1, h2, h3, h4⟩ := H2.out
      have hBn := Box3.cells (show Box3 36 W B _ _ _ from h1)
      obtain ⟨b0, b1, b2⟩ := hBn
      obtain ⟨s0, s1, s2, s3, s4, s5⟩ := row6 h2
      have HB0 := Lib.hid h3
      have hW0 : B < W.heap.size := by omega
      have hW1 : B + 1 < W.heap.size := by omega
      obtain ⟨WW, hWW⟩ : ∃ WW : World, WW = W := ⟨_, rfl⟩
      subst hWW
      clear h1 h2 h3 H2
      go_region_held3 (fun w' => w'.cell? ⟨B, 0, none⟩ = some (.slice A l.length ca) ∧ w'.cell? ⟨B, 1, none⟩ = some (.slice D zs.length cd) ∧ w'.cell? ⟨B, 2, none⟩ = some (.int .i64 x) ∧ w'.cell? ⟨B + 1, 3, none⟩ = some (.string p) ∧ w'.cell? ⟨B + 1, 4, none⟩ = some (.int .i64 0) ∧ w'.cell? ⟨B + 1, 5, none⟩ = some (.int .i64 0))
        (go_keep)
        (first
          | (go_at_call 120; refine (HP.out _ (HA.out.below ?_)).mono ?_; (focus (first | exact Below.refl _ _ | exact (Below.refl _ _).drew)); (rintro e u1 ⟨⟨v, rfl, hv⟩, hu⟩; (first | (have hb1 : Below WW.heap.size WW u1 := below_undrew hu) | (have hb1 : Below WW.heap.size WW u1 := hu)); have HC := Lib.hid (fun W' (hh : Below u1.heap.size u1 W') => contains_own (own_below hv hh) HL.out p); have e0 := (hb1.cell (p := ⟨B, 0, none⟩) hW0).trans b0; have e1 := (hb1.cell (p := ⟨B, 1, none⟩) hW0).trans b1; have e2 := (hb1.cell (p := ⟨B, 2, none⟩) hW0).trans b2; have e3 := (hb1.cell (p := ⟨B + 1, 3, none⟩) hW1).trans s3; have e4 := (hb1.cell (p := ⟨B + 1, 4, none⟩) hW1).trans s4; have e5 := (hb1.cell (p := ⟨B + 1, 5, none⟩) hW1).trans s5; clear hu hv))
          | (go_at_call 121; refine (HC.out _ ?_).mono ?_; (focus (first | exact Below.refl _ _ | exact (Below.refl _ _).drew)); (rintro e u2 ⟨rfl, rfl⟩))
          | fail)
      all_goals
        go_wp2
        go_ret
        exact ⟨ret_bool HV2.out.symm, by rw [HBE.out]; exact HB0.out.trans (Below.mono (by first | exact hb1 | exact hb1.drew) (by omega))⟩
    · have HV2 := Lib.hid (HV.out.trans (by rw [decide_eq_false q1]; rfl : (decide (g = 0 ∧ d = 0) && Lib.containsS (placesB l) p) = false)); clear HV HP HL
      have hEQ : ∀ W, Sem.run Tryz.prog (binOp BinOp.eql 52 (.agg #[.int .i64 g, .int .i64 d]) (.agg #[.int .i64 0, .int .i64 0])) W = .ok (.bool false) W := fun W => by
        rw [trip_eql]; by_cases e1 : g = 0 <;> by_cases e2 : d = 0 <;> simp_all
      go_enter Tryz.func119, Tryz.ntmps119
      go_wp2_with fail
      generalize hB : w.heap.size = B at *
      have HBE := Lib.hid hB; clear hB
      generalize (w.alloc (.cells #[.slice A l.length ca, .slice D zs.length cd, .int .i64 x] 36)).alloc (.cells #[.int .i64 h, .int .i64 a, .int .i64 k, .string p, .int .i64 g, .int .i64 d] 102) = W at *
      obtain ⟨h1, h2, h3, h4⟩ := H2.out
      have hBn := Box3.cells (show Box3 36 W B _ _ _ from h1)
      obtain ⟨b0, b1, b2⟩ := hBn
      obtain ⟨s0, s1, s2, s3, s4, s5⟩ := row6 h2
      have HB0 := Lib.hid h3
      have hW0 : B < W.heap.size := by omega
      have hW1 : B + 1 < W.heap.size := by omega
      have HF0 := far_cell hW0 b0; have HF1 := far_cell hW0 b1; have HF2 := far_cell hW0 b2; have HS1 := far_cell hW1 s1; have HS2 := far_cell hW1 s2; have HS3 := far_cell hW1 s3; have HS4 := far_cell hW1 s4; have HS5 := far_cell hW1 s5
      refine wp_region_far (by kernel_rfl) (by kernel_rfl) ?_
      repeat (any_goals (first | go_big_quiet_step (fail) | quiet_step (fail)))
      refine wpQuiet_nil ?_; intro w1 hw1
      have hbw1 : Below W.heap.size W w1 := by obtain ⟨u, rfl⟩ := hw1; exact below_far W u
      clear hw1
      go_wp2
      go_ret
      exact ⟨ret_bool HV2.out.symm, by rw [HBE.out]; exact HB0.out.trans (hbw1.mono (by omega))⟩
  by_cases k3 : k = 3
  · have t1 : (k == 1) = false := by simp [k3]
    have t4 : (k == 4) = false := by simp [k3]
    have t3 : (k == 3) = true := by simp [k3]
    have HV := Lib.hid (HKL.out k3); clear k3; clear HKH HKL HKD HKN HP HL
    by_cases q1 : p = ⟨#[]⟩
    · subst q1
      cases hR : trB l zs x ⟨g, d⟩ with
      | false =>
        have HV2 := Lib.hid (HV.out.trans (by rw [hR, Bool.false_and, Bool.and_false])); clear HV HST HEN
        rw [show ronB l zs x g d = false from hR] at HT
        clear hR
        go_enter Tryz.func119, Tryz.ntmps119
        go_wp2_with fail
        generalize hB : w.heap.size = B at *
        have HBE := Lib.hid hB; clear hB
        generalize (w.alloc (.cells #[.slice A l.length ca, .slice D zs.length cd, .int .i64 x] 36)).alloc (.cells #[.int .i64 h, .int .i64 a, .int .i64 k, .string ⟨#[]⟩, .int .i64 g, .int .i64 d] 102) = W at *
        obtain ⟨h1, h2, h3, h4⟩ := H2.out
        have hBn := Box3.cells (show Box3 36 W B _ _ _ from h1)
        obtain ⟨b0, b1, b2⟩ := hBn
        obtain ⟨s0, s1, s2, s3, s4, s5⟩ := row6 h2
        have HB0 := Lib.hid h3
        have hW0 : B < W.heap.size := by omega
        have hW1 : B + 1 < W.heap.size := by omega
        have HF0 := far_cell hW0 b0; have HF1 := far_cell hW0 b1; have HF2 := far_cell hW0 b2; have HS1 := far_cell hW1 s1; have HS2 := far_cell hW1 s2; have HS3 := far_cell hW1 s3; have HS4 := far_cell hW1 s4; have HS5 := far_cell hW1 s5
        have HTF := Lib.hid (fun x' => HT.out (far W x') (HA.out.below (below_far W x')) (HD.out.below (below_far W x')))
        refine wp_region_far (by kernel_rfl) (by kernel_rfl) ?_
        repeat (any_goals (first | go_big_quiet_step ((first | (go_at_call 110; with_reducible exact call_far (HTF.out _)))) | quiet_step ((first | (go_at_call 110; with_reducible exact call_far (HTF.out _))))))
        refine wpQuiet_nil ?_; intro w1 hw1
        have hbw1 : Below W.heap.size W w1 := by obtain ⟨u, rfl⟩ := hw1; exact below_far W u
        clear hw1
        go_wp2
        go_ret
        exact ⟨ret_bool HV2.out.symm, by rw [HBE.out]; exact HB0.out.trans (hbw1.mono (by omega))⟩
      | true =>
        have HSX := Lib.hid (HST.out hR)
        have HV1 := Lib.hid (HV.out.trans (by rw [hR, Bool.true_and, decide_eq_true (rfl : (⟨#[]⟩ : ByteArray) = ⟨#[]⟩), Bool.true_and])); clear HV HST HEN
        rw [show ronB l zs x g d = true from hR] at HT
        clear hR
        generalize trS l ⟨g, d⟩ = S at *
        have HV2 := HV1; clear HV1
        go_enter Tryz.func119, Tryz.ntmps119
        go_wp2_with fail
        generalize hB : w.heap.size = B at *
        have HBE := Lib.hid hB; clear hB
        generalize (w.alloc (.cells #[.slice A l.length ca, .slice D zs.length cd, .int .i64 x] 36)).alloc (.cells #[.int .i64 h, .int .i64 a, .int .i64 k, .string ⟨#[]⟩, .int .i64 g, .int .i64 d] 102) = W at *
        obtain ⟨h1, h2, h3, h4⟩ := H2.out
        have hBn := Box3.cells (show Box3 36 W B _ _ _ from h1)
        obtain ⟨b0, b1, b2⟩ := hBn
        obtain ⟨s0, s1, s2, s3, s4, s5⟩ := row6 h2
        have HB0 := Lib.hid h3
        have hW0 : B < W.heap.size := by omega
        have hW1 : B + 1 < W.heap.size := by omega
        have HF0 := far_cell hW0 b0; have HF1 := far_cell hW0 b1; have HF2 := far_cell hW0 b2; have HS1 := far_cell hW1 s1; have HS2 := far_cell hW1 s2; have HS3 := far_cell hW1 s3; have HS4 := far_cell hW1 s4; have HS5 := far_cell hW1 s5
        have HTF := Lib.hid (fun x' => HT.out (far W x') (HA.out.below (below_far W x')) (HD.out.below (below_far W x')))
        have HSF := Lib.hid (fun x' => HSX.out (far W x') (HA.out.below (below_far W x')) (HD.out.below (below_far W x')))
        refine wp_region_far (by kernel_rfl) (by kernel_rfl) ?_
        repeat (any_goals (first | go_big_quiet_step ((first | (go_at_call 110; with_reducible exact call_far (HTF.out _)) | (go_at_call 111; with_reducible exact call_far (HSF.out _)))) | quiet_step ((first | (go_at_call 110; with_reducible exact call_far (HTF.out _)) | (go_at_call 111; with_reducible exact call_far (HSF.out _))))))
        refine wpQuiet_nil ?_; intro w1 hw1
        have hbw1 : Below W.heap.size W w1 := by obtain ⟨u, rfl⟩ := hw1; exact below_far W u
        clear hw1
        go_wp2
        go_ret
        exact ⟨ret_bool HV2.out.symm, by rw [HBE.out]; exact HB0.out.trans (hbw1.mono (by omega))⟩
    · have hps := str_emp q1
      have HV2 := Lib.hid (HV.out.trans (by rw [decide_eq_false q1, Bool.false_and])); clear HV HST HEN HT q1
      go_enter Tryz.func119, Tryz.ntmps119
      go_wp2_with fail
      generalize hB : w.heap.size = B at *
      have HBE := Lib.hid hB; clear hB
      generalize (w.alloc (.cells #[.slice A l.length ca, .slice D zs.length cd, .int .i64 x] 36)).alloc (.cells #[.int .i64 h, .int .i64 a, .int .i64 k, .string p, .int .i64 g, .int .i64 d] 102) = W at *
      obtain ⟨h1, h2, h3, h4⟩ := H2.out
      have hBn := Box3.cells (show Box3 36 W B _ _ _ from h1)
      obtain ⟨b0, b1, b2⟩ := hBn
      obtain ⟨s0, s1, s2, s3, s4, s5⟩ := row6 h2
      have HB0 := Lib.hid h3
      have hW0 : B < W.heap.size := by omega
      have hW1 : B + 1 < W.heap.size := by omega
      have HF0 := far_cell hW0 b0; have HF1 := far_cell hW0 b1; have HF2 := far_cell hW0 b2; have HS1 := far_cell hW1 s1; have HS2 := far_cell hW1 s2; have HS3 := far_cell hW1 s3; have HS4 := far_cell hW1 s4; have HS5 := far_cell hW1 s5
      refine wp_region_far (by kernel_rfl) (by kernel_rfl) ?_
      repeat (any_goals (first | go_big_quiet_step (fail) | quiet_step (fail)))
      refine wpQuiet_nil ?_; intro w1 hw1
      have hbw1 : Below W.heap.size W w1 := by obtain ⟨u, rfl⟩ := hw1; exact below_far W u
      clear hw1
      go_wp2
      go_ret
      exact ⟨ret_bool HV2.out.symm, by rw [HBE.out]; exact HB0.out.trans (hbw1.mono (by omega))⟩
  by_cases k2 : k = 2
  · have t1 : (k == 1) = false := by simp [k2]
    have t4 : (k == 4) = false := by simp [k2]
    have t3 : (k == 3) = false := by simp [k2]
    have t2 : (k == 2) = true := by simp [k2]
    have HV := Lib.hid (HKD.out k2); clear k2; clear HKH HKL HKD HKN HP HL
    by_cases q1 : p = ⟨#[]⟩
    · subst q1
      cases hR : trB l zs x ⟨g, d⟩ with
      | false =>
        have HV2 := Lib.hid (HV.out.trans (by rw [hR, Bool.false_and, Bool.and_false])); clear HV HST HEN
        rw [show ronB l zs x g d = false from hR] at HT
        clear hR
        go_enter Tryz.func119, Tryz.ntmps119
        go_wp2_with fail
        generalize hB : w.heap.size = B at *
        have HBE := Lib.hid hB; clear hB
        generalize (w.alloc (.cells #[.slice A l.length ca, .slice D zs.length cd, .int .i64 x] 36)).alloc (.cells #[.int .i64 h, .int .i64 a, .int .i64 k, .string ⟨#[]⟩, .int .i64 g, .int .i64 d] 102) = W at *
        obtain ⟨h1, h2, h3, h4⟩ := H2.out
        have hBn := Box3.cells (show Box3 36 W B _ _ _ from h1)
        obtain ⟨b0, b1, b2⟩ := hBn
        obtain ⟨s0, s1, s2, s3, s4, s5⟩ := row6 h2
        have HB0 := Lib.hid h3
        have hW0 : B < W.heap.size := by omega
        have hW1 : B + 1 < W.heap.size := by omega
        have HF0 := far_cell hW0 b0; have HF1 := far_cell hW0 b1; have HF2 := far_cell hW0 b2; have HS1 := far_cell hW1 s1; have HS2 := far_cell hW1 s2; have HS3 := far_cell hW1 s3; have HS4 := far_cell hW1 s4; have HS5 := far_cell hW1 s5
        have HTF := Lib.hid (fun x' => HT.out (far W x') (HA.out.below (below_far W x')) (HD.out.below (below_far W x')))
        refine wp_region_far (by kernel_rfl) (by kernel_rfl) ?_
        repeat (any_goals (first | go_big_quiet_step ((first | (go_at_call 110; with_reducible exact call_far (HTF.out _)))) | quiet_step ((first | (go_at_call 110; with_reducible exact call_far (HTF.out _))))))
        refine wpQuiet_nil ?_; intro w1 hw1
        have hbw1 : Below W.heap.size W w1 := by obtain ⟨u, rfl⟩ := hw1; exact below_far W u
        clear hw1
        go_wp2
        go_ret
        exact ⟨ret_bool HV2.out.symm, by rw [HBE.out]; exact HB0.out.trans (hbw1.mono (by omega))⟩
      | true =>
        have HSX := Lib.hid (HEN.out hR)
        have HV1 := Lib.hid (HV.out.trans (by rw [hR, Bool.true_and, decide_eq_true (rfl : (⟨#[]⟩ : ByteArray) = ⟨#[]⟩), Bool.true_and])); clear HV HST HEN
        rw [show ronB l zs x g d = true from hR] at HT
        clear hR
        generalize trE l ⟨g, d⟩ = S at *
        have HV2 := HV1; clear HV1
        go_enter Tryz.func119, Tryz.ntmps119
        go_wp2_with fail
        generalize hB : w.heap.size = B at *
        have HBE := Lib.hid hB; clear hB
        generalize (w.alloc (.cells #[.slice A l.length ca, .slice D zs.length cd, .int .i64 x] 36)).alloc (.cells #[.int .i64 h, .int .i64 a, .int .i64 k, .string ⟨#[]⟩, .int .i64 g, .int .i64 d] 102) = W at *
        obtain ⟨h1, h2, h3, h4⟩ := H2.out
        have hBn := Box3.cells (show Box3 36 W B _ _ _ from h1)
        obtain ⟨b0, b1, b2⟩ := hBn
        obtain ⟨s0, s1, s2, s3, s4, s5⟩ := row6 h2
        have HB0 := Lib.hid h3
        have hW0 : B < W.heap.size := by omega
        have hW1 : B + 1 < W.heap.size := by omega
        have HF0 := far_cell hW0 b0; have HF1 := far_cell hW0 b1; have HF2 := far_cell hW0 b2; have HS1 := far_cell hW1 s1; have HS2 := far_cell hW1 s2; have HS3 := far_cell hW1 s3; have HS4 := far_cell hW1 s4; have HS5 := far_cell hW1 s5
        have HTF := Lib.hid (fun x' => HT.out (far W x') (HA.out.below (below_far W x')) (HD.out.below (below_far W x')))
        have HSF := Lib.hid (fun x' => HSX.out (far W x') (HA.out.below (below_far W x')) (HD.out.below (below_far W x')))
        refine wp_region_far (by kernel_rfl) (by kernel_rfl) ?_
        repeat (any_goals (first | go_big_quiet_step ((first | (go_at_call 110; with_reducible exact call_far (HTF.out _)) | (go_at_call 85; with_reducible exact call_far (HSF.out _)))) | quiet_step ((first | (go_at_call 110; with_reducible exact call_far (HTF.out _)) | (go_at_call 85; with_reducible exact call_far (HSF.out _))))))
        refine wpQuiet_nil ?_; intro w1 hw1
        have hbw1 : Below W.heap.size W w1 := by obtain ⟨u, rfl⟩ := hw1; exact below_far W u
        clear hw1
        go_wp2
        go_ret
        exact ⟨ret_bool HV2.out.symm, by rw [HBE.out]; exact HB0.out.trans (hbw1.mono (by omega))⟩
    · have hps := str_emp q1
      have HV2 := Lib.hid (HV.out.trans (by rw [decide_eq_false q1, Bool.false_and])); clear HV HST HEN HT q1
      go_enter Tryz.func119, Tryz.ntmps119
      go_wp2_with fail
      generalize hB : w.heap.size = B at *
      have HBE := Lib.hid hB; clear hB
      generalize (w.alloc (.cells #[.slice A l.length ca, .slice D zs.length cd, .int .i64 x] 36)).alloc (.cells #[.int .i64 h, .int .i64 a, .int .i64 k, .string p, .int .i64 g, .int .i64 d] 102) = W at *
      obtain ⟨h1, h2, h3, h4⟩ := H2.out
      have hBn := Box3.cells (show Box3 36 W B _ _ _ from h1)
      obtain ⟨b0, b1, b2⟩ := hBn
      obtain ⟨s0, s1, s2, s3, s4, s5⟩ := row6 h2
      have HB0 := Lib.hid h3
      have hW0 : B < W.heap.size := by omega
      have hW1 : B + 1 < W.heap.size := by omega
      have HF0 := far_cell hW0 b0; have HF1 := far_cell hW0 b1; have HF2 := far_cell hW0 b2; have HS1 := far_cell hW1 s1; have HS2 := far_cell hW1 s2; have HS3 := far_cell hW1 s3; have HS4 := far_cell hW1 s4; have HS5 := far_cell hW1 s5
      refine wp_region_far (by kernel_rfl) (by kernel_rfl) ?_
      repeat (any_goals (first | go_big_quiet_step (fail) | quiet_step (fail)))
      refine wpQuiet_nil ?_; intro w1 hw1
      have hbw1 : Below W.heap.size W w1 := by obtain ⟨u, rfl⟩ := hw1; exact below_far W u
      clear hw1
      go_wp2
      go_ret
      exact ⟨ret_bool HV2.out.symm, by rw [HBE.out]; exact HB0.out.trans (hbw1.mono (by omega))⟩
  have t1 : (k == 1) = false := by simp [k1]
  have t2 : (k == 2) = false := by simp [k2]
  have t3 : (k == 3) = false := by simp [k3]
  have t4 : (k == 4) = false := by simp [k4]
  have HV2 := Lib.hid (HKN.out k1 k2 k3 k4)
  have HB0 := Lib.hid H2.out.2.2.1
  clear HKH HKL HKD HKN HT HST HEN HP HL k1 k2 k3 k4 H2 HA HD
  go_enter Tryz.func119, Tryz.ntmps119
  go_wp2
  go_ret
  exact ⟨ret_bool HV2.out.symm, HB0.out⟩
end Go.Proofs.YtadcmngooobeiabGreat

/- The contract of impl.IsScan. Written by mk/scanw.py. -/
namespace Go.Proofs.YtadcmngooobeiabGreat
open Go.RowKit
theorem scB_net {l : List Lg} {zs : List Int} {x : Int} {r : Sc} (h : netB l zs x = false) : scB l zs x r = false := by unfold scB; rw [h]; rfl
theorem scB_h {l : List Lg} {zs : List Int} {x : Int} {r : Sc} (h : ¬ (1 ≤ r.h ∧ r.h ≤ 9999)) : scB l zs x r = false := by unfold scB; rw [decide_eq_false h]; simp
theorem scB_a {l : List Lg} {zs : List Int} {x : Int} {r : Sc} (h : ¬ (0 ≤ r.a ∧ r.a ≤ 100000)) : scB l zs x r = false := by unfold scB; rw [decide_eq_false h]; simp
theorem scB_k {l : List Lg} {zs : List Int} {x : Int} {r : Sc} (h1 : netB l zs x = true) (h2 : 1 ≤ r.h ∧ r.h ≤ 9999) (h3 : 0 ≤ r.a ∧ r.a ≤ 100000) : scB l zs x r = kindB l zs x r := by unfold scB; rw [h1, decide_eq_true h2, decide_eq_true h3]; rfl
set_option maxRecDepth 100000 in
set_option maxHeartbeats 4000000 in
theorem is_sc (h a k : Int) (p : ByteArray) (g d : Int) (A : Option Addr) (ca : Nat) (l : List Lg) (D : Option Addr) (cd : Nat) (zs : List Int) (x : Int) (w : World) (hA : InK 6 lgC w A l) (hD : IntsIn w D zs) (hs : ∀ z ∈ l, z.f.size ≤ maxLen ∧ z.t.size ≤ maxLen) (hn : l.length ≤ 1048576) (hm : zs.length ≤ 1048576) :
    Calls Tryz.prog 104 #[.agg #[.slice A l.length ca, .slice D zs.length cd, .int .i64 x], .agg #[.int .i64 h, .int .i64 a, .int .i64 k, .string p, .int .i64 g, .int .i64 d]] w fun e w' => e = .returned (.bool (scB l zs x ⟨h, a, k, p, g, d⟩)) ∧ Below w.heap.size w w' := by
  have H2 := Lib.hid (two w (.cells #[.slice A l.length ca, .slice D zs.length cd, .int .i64 x] 36) (.cells #[.int .i64 h, .int .i64 a, .int .i64 k, .string p, .int .i64 g, .int .i64 d] 102))
  have HA := Lib.hid (hA.below H2.out.2.2.1); have HD := Lib.hid (hD.below H2.out.2.2.1); clear hA hD
  have HI := Lib.hid (fun W (h1 : InK 6 lgC W A l) (h2 : IntsIn W D zs) => is_net A ca l D cd zs x W h1 h2 hs hn hm)
  have HF := Lib.hid (fun W (h1 : InK 6 lgC W A l) (h2 : IntsIn W D zs) => fits_impl h a k p g d A ca l D cd zs x W h1 h2 hs hn hm)
  have HV1 := Lib.hid (scB_net (l := l) (zs := zs) (x := x) (r := ⟨h, a, k, p, g, d⟩))
  have HV2 := Lib.hid (fun q => scB_h (l := l) (zs := zs) (x := x) (r := ⟨h, a, k, p, g, d⟩) q)
  have HV3 := Lib.hid (fun q => scB_a (l := l) (zs := zs) (x := x) (r := ⟨h, a, k, p, g, d⟩) q)
  have HV4 := Lib.hid (fun q0 q1 q2 => scB_k (l := l) (zs := zs) (x := x) (r := ⟨h, a, k, p, g, d⟩) q0 q1 q2)
  dsimp only at HV1 HV2 HV3 HV4
  clear hs
  generalize scB l zs x ⟨h, a, k, p, g, d⟩ = V at *
  generalize kindB l zs x ⟨h, a, k, p, g, d⟩ = K at *
  cases hnet : netB l zs x with
  | false =>
    have HV := Lib.hid (HV1.out hnet)
    rw [hnet] at HI; clear hnet HV1 HV2 HV3 HV4 HF
    go_enter Tryz.func104, Tryz.ntmps104
    go_wp2_with fail
    generalize hB : w.heap.size = B at *
    have HBE := Lib.hid hB; clear hB
    generalize (w.alloc (.cells #[.slice A l.length ca, .slice D zs.length cd, .int .i64 x] 36)).alloc (.cells #[.int .i64 h, .int .i64 a, .int .i64 k, .string p, .int .i64 g, .int .i64 d] 102) = W at *
    obtain ⟨h1, h2, h3, h4⟩ := H2.out
    have hBn := Box3.cells (show Box3 36 W B _ _ _ from h1)
    obtain ⟨b0, b1, b2⟩ := hBn
    obtain ⟨s0, s1, s2, s3, s4, s5⟩ := row6 h2
    have HB0 := Lib.hid h3
    have hW0 : B < W.heap.size := by omega
    have hW1 : B + 1 < W.heap.size := by omega
    clear h1 h2 h3
    refine (HI.out W HA.out HD.out).mono ?_; rintro e w1 ⟨rfl, hb1⟩
    have HB1 := Lib.hid (HB0.out.trans (hb1.mono (by omega)))
    go_wp2
    go_ret
    exact ⟨ret_bool HV.out.symm, by rw [HBE.out]; exact HB1.out⟩
  | true =>
    replace HV4 := Lib.hid (HV4.out hnet)
    rw [hnet] at HI; clear hnet HV1
    by_cases q0 : 1 ≤ h
    · skip
      by_cases q1 : h ≤ 9999
      · skip
        by_cases q2 : 0 ≤ a
        · skip
          by_cases q3 : a ≤ 100000
          · skip
            have HV := Lib.hid (HV4.out ⟨q0, q1⟩ ⟨q2, q3⟩); clear HV2 HV3 HV4
            go_enter Tryz.func104, Tryz.ntmps104
            go_wp2_with fail
            generalize hB : w.heap.size = B at *
            have HBE := Lib.hid hB; clear hB
            generalize (w.alloc (.cells #[.slice A l.length ca, .slice D zs.length cd, .int .i64 x] 36)).alloc (.cells #[.int .i64 h, .int .i64 a, .int .i64 k, .string p, .int .i64 g, .int .i64 d] 102) = W at *
            obtain ⟨h1, h2, h3, h4⟩ := H2.out
            have hBn := Box3.cells (show Box3 36 W B _ _ _ from h1)
            obtain ⟨b0, b1, b2⟩ := hBn
            obtain ⟨s0, s1, s2, s3, s4, s5⟩ := row6 h2
            have HB0 := Lib.hid h3
            have hW0 : B < W.heap.size := by omega
            have hW1 : B + 1 < W.heap.size := by omega
            clear h1 h2 h3
            refine (HI.out W HA.out HD.out).mono ?_; rintro e w1 ⟨rfl, hb1⟩
            have HB1 := Lib.hid (HB0.out.trans (hb1.mono (by omega)))
            have e0 := (hb1.cell (p := ⟨B, 0, none⟩) hW0).trans b0; have e1 := (hb1.cell (p := ⟨B, 1, none⟩) hW0).trans b1; have e2 := (hb1.cell (p := ⟨B, 2, none⟩) hW0).trans b2
            have f0 := (hb1.cell (p := ⟨B + 1, 0, none⟩) hW1).trans s0; have f1 := (hb1.cell (p := ⟨B + 1, 1, none⟩) hW1).trans s1; have f2 := (hb1.cell (p := ⟨B + 1, 2, none⟩) hW1).trans s2; have f3 := (hb1.cell (p := ⟨B + 1, 3, none⟩) hW1).trans s3; have f4 := (hb1.cell (p := ⟨B + 1, 4, none⟩) hW1).trans s4; have f5 := (hb1.cell (p := ⟨B + 1, 5, none⟩) hW1).trans s5
            have HFW := Lib.hid (HF.out w1 (HA.out.below hb1) (HD.out.below hb1))
            go_wp2_with fail
            refine HFW.out.mono ?_; rintro e w2 ⟨rfl, hb2⟩
            have HB2 := Lib.hid (HB1.out.trans (hb2.mono (by have := hb1.size; omega)))
            go_wp2
            go_ret
            exact ⟨ret_bool HV.out.symm, by rw [HBE.out]; exact HB2.out⟩
          · have HV := Lib.hid (HV3.out (by omega)); clear HV2 HV3 HV4 HF
            go_enter Tryz.func104, Tryz.ntmps104
            go_wp2_with fail
            generalize hB : w.heap.size = B at *
            have HBE := Lib.hid hB; clear hB
            generalize (w.alloc (.cells #[.slice A l.length ca, .slice D zs.length cd, .int .i64 x] 36)).alloc (.cells #[.int .i64 h, .int .i64 a, .int .i64 k, .string p, .int .i64 g, .int .i64 d] 102) = W at *
            obtain ⟨h1, h2, h3, h4⟩ := H2.out
            have hBn := Box3.cells (show Box3 36 W B _ _ _ from h1)
            obtain ⟨b0, b1, b2⟩ := hBn
            obtain ⟨s0, s1, s2, s3, s4, s5⟩ := row6 h2
            have HB0 := Lib.hid h3
            have hW0 : B < W.heap.size := by omega
            have hW1 : B + 1 < W.heap.size := by omega
            clear h1 h2 h3
            refine (HI.out W HA.out HD.out).mono ?_; rintro e w1 ⟨rfl, hb1⟩
            have HB1 := Lib.hid (HB0.out.trans (hb1.mono (by omega)))
            have e0 := (hb1.cell (p := ⟨B, 0, none⟩) hW0).trans b0; have e1 := (hb1.cell (p := ⟨B, 1, none⟩) hW0).trans b1; have e2 := (hb1.cell (p := ⟨B, 2, none⟩) hW0).trans b2
            have f0 := (hb1.cell (p := ⟨B + 1, 0, none⟩) hW1).trans s0; have f1 := (hb1.cell (p := ⟨B + 1, 1, none⟩) hW1).trans s1; have f2 := (hb1.cell (p := ⟨B + 1, 2, none⟩) hW1).trans s2; have f3 := (hb1.cell (p := ⟨B + 1, 3, none⟩) hW1).trans s3; have f4 := (hb1.cell (p := ⟨B + 1, 4, none⟩) hW1).trans s4; have f5 := (hb1.cell (p := ⟨B + 1, 5, none⟩) hW1).trans s5
            go_wp2
            go_ret
            exact ⟨ret_bool HV.out.symm, by rw [HBE.out]; exact HB1.out⟩
        · have HV := Lib.hid (HV3.out (by omega)); clear HV2 HV3 HV4 HF
          go_enter Tryz.func104, Tryz.ntmps104
          go_wp2_with fail
          generalize hB : w.heap.size = B at *
          have HBE := Lib.hid hB; clear hB
          generalize (w.alloc (.cells #[.slice A l.length ca, .slice D zs.length cd, .int .i64 x] 36)).alloc (.cells #[.int .i64 h, .int .i64 a, .int .i64 k, .string p, .int .i64 g, .int .i64 d] 102) = W at *
          obtain ⟨h1, h2, h3, h4⟩ := H2.out
          have hBn := Box3.cells (show Box3 36 W B _ _ _ from h1)
          obtain ⟨b0, b1, b2⟩ := hBn
          obtain ⟨s0, s1, s2, s3, s4, s5⟩ := row6 h2
          have HB0 := Lib.hid h3
          have hW0 : B < W.heap.size := by omega
          have hW1 : B + 1 < W.heap.size := by omega
          clear h1 h2 h3
          refine (HI.out W HA.out HD.out).mono ?_; rintro e w1 ⟨rfl, hb1⟩
          have HB1 := Lib.hid (HB0.out.trans (hb1.mono (by omega)))
          have e0 := (hb1.cell (p := ⟨B, 0, none⟩) hW0).trans b0; have e1 := (hb1.cell (p := ⟨B, 1, none⟩) hW0).trans b1; have e2 := (hb1.cell (p := ⟨B, 2, none⟩) hW0).trans b2
          have f0 := (hb1.cell (p := ⟨B + 1, 0, none⟩) hW1).trans s0; have f1 := (hb1.cell (p := ⟨B + 1, 1, none⟩) hW1).trans s1; have f2 := (hb1.cell (p := ⟨B + 1, 2, none⟩) hW1).trans s2; have f3 := (hb1.cell (p := ⟨B + 1, 3, none⟩) hW1).trans s3; have f4 := (hb1.cell (p := ⟨B + 1, 4, none⟩) hW1).trans s4; have f5 := (hb1.cell (p := ⟨B + 1, 5, none⟩) hW1).trans s5
          go_wp2
          go_ret
          exact ⟨ret_bool HV.out.symm, by rw [HBE.out]; exact HB1.out⟩
      · have HV := Lib.hid (HV2.out (by omega)); clear HV2 HV3 HV4 HF
        go_enter Tryz.func104, Tryz.ntmps104
        go_wp2_with fail
        generalize hB : w.heap.size = B at *
        have HBE := Lib.hid hB; clear hB
        generalize (w.alloc (.cells #[.slice A l.length ca, .slice D zs.length cd, .int .i64 x] 36)).alloc (.cells #[.int .i64 h, .int .i64 a, .int .i64 k, .string p, .int .i64 g, .int .i64 d] 102) = W at *
        obtain ⟨h1, h2, h3, h4⟩ := H2.out
        have hBn := Box3.cells (show Box3 36 W B _ _ _ from h1)
        obtain ⟨b0, b1, b2⟩ := hBn
        obtain ⟨s0, s1, s2, s3, s4, s5⟩ := row6 h2
        have HB0 := Lib.hid h3
        have hW0 : B < W.heap.size := by omega
        have hW1 : B + 1 < W.heap.size := by omega
        clear h1 h2 h3
        refine (HI.out W HA.out HD.out).mono ?_; rintro e w1 ⟨rfl, hb1⟩
        have HB1 := Lib.hid (HB0.out.trans (hb1.mono (by omega)))
        have e0 := (hb1.cell (p := ⟨B, 0, none⟩) hW0).trans b0; have e1 := (hb1.cell (p := ⟨B, 1, none⟩) hW0).trans b1; have e2 := (hb1.cell (p := ⟨B, 2, none⟩) hW0).trans b2
        have f0 := (hb1.cell (p := ⟨B + 1, 0, none⟩) hW1).trans s0; have f1 := (hb1.cell (p := ⟨B + 1, 1, none⟩) hW1).trans s1; have f2 := (hb1.cell (p := ⟨B + 1, 2, none⟩) hW1).trans s2; have f3 := (hb1.cell (p := ⟨B + 1, 3, none⟩) hW1).trans s3; have f4 := (hb1.cell (p := ⟨B + 1, 4, none⟩) hW1).trans s4; have f5 := (hb1.cell (p := ⟨B + 1, 5, none⟩) hW1).trans s5
        go_wp2
        go_ret
        exact ⟨ret_bool HV.out.symm, by rw [HBE.out]; exact HB1.out⟩
    · have HV := Lib.hid (HV2.out (by omega)); clear HV2 HV3 HV4 HF
      go_enter Tryz.func104, Tryz.ntmps104
      go_wp2_with fail
      generalize hB : w.heap.size = B at *
      have HBE := Lib.hid hB; clear hB
      generalize (w.alloc (.cells #[.slice A l.length ca, .slice D zs.length cd, .int .i64 x] 36)).alloc (.cells #[.int .i64 h, .int .i64 a, .int .i64 k, .string p, .int .i64 g, .int .i64 d] 102) = W at *
      obtain ⟨h1, h2, h3, h4⟩ := H2.out
      have hBn := Box3.cells (show Box3 36 W B _ _ _ from h1)
      obtain ⟨b0, b1, b2⟩ := hBn
      obtain ⟨s0, s1, s2, s3, s4, s5⟩ := row6 h2
      have HB0 := Lib.hid h3
      have hW0 : B < W.heap.size := by omega
      have hW1 : B + 1 < W.heap.size := by omega
      clear h1 h2 h3
      refine (HI.out W HA.out HD.out).mono ?_; rintro e w1 ⟨rfl, hb1⟩
      have HB1 := Lib.hid (HB0.out.trans (hb1.mono (by omega)))
      have e0 := (hb1.cell (p := ⟨B, 0, none⟩) hW0).trans b0; have e1 := (hb1.cell (p := ⟨B, 1, none⟩) hW0).trans b1; have e2 := (hb1.cell (p := ⟨B, 2, none⟩) hW0).trans b2
      have f0 := (hb1.cell (p := ⟨B + 1, 0, none⟩) hW1).trans s0; have f1 := (hb1.cell (p := ⟨B + 1, 1, none⟩) hW1).trans s1; have f2 := (hb1.cell (p := ⟨B + 1, 2, none⟩) hW1).trans s2; have f3 := (hb1.cell (p := ⟨B + 1, 3, none⟩) hW1).trans s3; have f4 := (hb1.cell (p := ⟨B + 1, 4, none⟩) hW1).trans s4; have f5 := (hb1.cell (p := ⟨B + 1, 5, none⟩) hW1).trans s5
      go_wp2
      go_ret
      exact ⟨ret_bool HV.out.symm, by rw [HBE.out]; exact HB1.out⟩
end Go.Proofs.YtadcmngooobeiabGreat

/- The contract of spec.IsScan. Written by mk/scanw.py. -/
namespace Go.Proofs.YtadcmngooobeiabGreat
open Go.RowKit
set_option maxRecDepth 100000 in
set_option maxHeartbeats 8000000 in
theorem is_sc_spec (h a k : Int) (p : ByteArray) (g d : Int) (A : Option Addr) (ca : Nat) (l : List Lg) (D : Option Addr) (cd : Nat) (zs : List Int) (x : Int) (w : World) (hA : InK 6 lgC w A l) (hD : IntsIn w D zs) (hs : ∀ z ∈ l, z.f.size ≤ maxLen ∧ z.t.size ≤ maxLen) (hn : l.length ≤ 1048576) (hm : zs.length ≤ 1048576) :
    Calls Tryz.prog 62 #[.agg #[.slice A l.length ca, .slice D zs.length cd, .int .i64 x], .agg #[.int .i64 h, .int .i64 a, .int .i64 k, .string p, .int .i64 g, .int .i64 d]] w fun e w' => e = .returned (.bool (scB l zs x ⟨h, a, k, p, g, d⟩)) ∧ Below w.heap.size w w' := by
  have H2 := Lib.hid (two w (.cells #[.slice A l.length ca, .slice D zs.length cd, .int .i64 x] 36) (.cells #[.int .i64 h, .int .i64 a, .int .i64 k, .string p, .int .i64 g, .int .i64 d] 102))
  have HA := Lib.hid (hA.below H2.out.2.2.1); have HD := Lib.hid (hD.below H2.out.2.2.1); clear hA hD
  have HI := Lib.hid (fun W (h1 : InK 6 lgC W A l) (h2 : IntsIn W D zs) => is_net_spec A ca l D cd zs x W h1 h2 hs hn hm)
  have HT := Lib.hid (fun W (h1 : InK 6 lgC W A l) (h2 : IntsIn W D zs) => is_trip_spec g d A ca l D cd zs x W h1 h2 hs hn hm)
  have HST := Lib.hid (fun (htr : trB l zs x ⟨g, d⟩ = true) W (h1 : InK 6 lgC W A l) (h2 : IntsIn W D zs) => start_tp_spec ⟨g, d⟩ htr A ca D cd W h1 h2 hn)
  have HEN := Lib.hid (fun (htr : trB l zs x ⟨g, d⟩ = true) W (h1 : InK 6 lgC W A l) (h2 : IntsIn W D zs) => end_tp_spec ⟨g, d⟩ htr A ca D cd W h1 h2 hn)
  have HP := Lib.hid (fun W (h1 : InK 6 lgC W A l) => places_spec A ca l D cd zs.length x W h1 hn)
  have HL := Lib.hid (show (placesB l).length ≤ 4000000 by have := placesB_len l; omega)
  have HH := Lib.hid (fun W => in_any h 1 9999 W)
  have HTI := Lib.hid (fun W => in_any a 0 100000 W)
  have HV1 := Lib.hid (scB_net (l := l) (zs := zs) (x := x) (r := ⟨h, a, k, p, g, d⟩))
  have HV2 := Lib.hid (fun q => scB_h (l := l) (zs := zs) (x := x) (r := ⟨h, a, k, p, g, d⟩) q)
  have HV3 := Lib.hid (fun q => scB_a (l := l) (zs := zs) (x := x) (r := ⟨h, a, k, p, g, d⟩) q)
  have HV4 := Lib.hid (fun q0 q1 q2 => scB_k (l := l) (zs := zs) (x := x) (r := ⟨h, a, k, p, g, d⟩) q0 q1 q2)
  have HKH := Lib.hid (fun hk => kind_here (l := l) (zs := zs) (x := x) (r := ⟨h, a, k, p, g, d⟩) hk)
  have HKL := Lib.hid (fun hk => kind_load (l := l) (zs := zs) (x := x) (r := ⟨h, a, k, p, g, d⟩) hk)
  have HKD := Lib.hid (fun hk => kind_drop (l := l) (zs := zs) (x := x) (r := ⟨h, a, k, p, g, d⟩) hk)
  have HKN := Lib.hid (fun q1 q2 q3 q4 => kind_none (l := l) (zs := zs) (x := x) (r := ⟨h, a, k, p, g, d⟩) q1 q2 q3 q4)
  have HCI := Lib.hid (show Lib.containsS (placesB l) p = decide (0 ≤ idxI (placesB l) p) from rfl)
  dsimp only at HV1 HV2 HV3 HV4 HKH HKL HKD HKN
  clear hs
  generalize scB l zs x ⟨h, a, k, p, g, d⟩ = V at *
  generalize kindB l zs x ⟨h, a, k, p, g, d⟩ = K at *
  cases hnet : netB l zs x with
  | false =>
    have HV := Lib.hid (HV1.out hnet)
    rw [hnet] at HI; clear hnet HV1 HV2 HV3 HV4 HKH HKL HKD HKN HT HST HEN HP HL HCI
    go_enter Tryz.func62, Tryz.ntmps62
    go_wp2_with fail
    generalize hB : w.heap.size = B at *
    have HBE := Lib.hid hB; clear hB
    generalize (w.alloc (.cells #[.slice A l.length ca, .slice D zs.length cd, .int .i64 x] 36)).alloc (.cells #[.int .i64 h, .int .i64 a, .int .i64 k, .string p, .int .i64 g, .int .i64 d] 102) = W at *
    obtain ⟨h1, h2, h3, h4⟩ := H2.out
    have hBn := Box3.cells (show Box3 36 W B _ _ _ from h1)
    obtain ⟨b0, b1, b2⟩ := hBn
    obtain ⟨s0, s1, s2, s3, s4, s5⟩ := row6 h2
    have HB0 := Lib.hid h3
    have hW0 : B < W.heap.size := by omega
    have hW1 : B + 1 < W.heap.size := by omega
    clear h1 h2 h3
    refine (HI.out W HA.out HD.out).mono ?_; rintro e w1 ⟨rfl, hb1⟩
    have HB1 := Lib.hid (HB0.out.trans (hb1.mono (by omega)))
    go_wp2
    go_ret
    exact ⟨ret_bool HV.out.symm, by rw [HBE.out]; exact HB1.out⟩
  | true =>
    replace HV4 := Lib.hid (HV4.out hnet)
    rw [hnet] at HI; clear hnet HV1
    by_cases q0 : 1 ≤ h ∧ h ≤ 9999
    rotate_left
    · have HV := Lib.hid (HV2.out q0)
      rw [show inB h 1 9999 = false from Bool.eq_false_iff.2 (fun e => q0 (inB_iff.1 e))] at HH
      clear HV2 HV3 HV4 HKH HKL HKD HKN HT HST HEN HP HL HCI q0
      go_enter Tryz.func62, Tryz.ntmps62
      go_wp2_with fail
      generalize hB : w.heap.size = B at *
      have HBE := Lib.hid hB; clear hB
      generalize (w.alloc (.cells #[.slice A l.length ca, .slice D zs.length cd, .int .i64 x] 36)).alloc (.cells #[.int .i64 h, .int .i64 a, .int .i64 k, .string p, .int .i64 g, .int .i64 d] 102) = W at *
      obtain ⟨h1, h2, h3, h4⟩ := H2.out
      have hBn := Box3.cells (show Box3 36 W B _ _ _ from h1)
      obtain ⟨b0, b1, b2⟩ := hBn
      obtain ⟨s0, s1, s2, s3, s4, s5⟩ := row6 h2
      have HB0 := Lib.hid h3
      have hW0 : B < W.heap.size := by omega
      have hW1 : B + 1 < W.heap.size := by omega
      clear h1 h2 h3
      refine (HI.out W HA.out HD.out).mono ?_; rintro e w1 ⟨rfl, hb1⟩
      have HB1 := Lib.hid (HB0.out.trans (hb1.mono (by omega)))
      have e0 := (hb1.cell (p := ⟨B, 0, none⟩) hW0).trans b0; have e1 := (hb1.cell (p := ⟨B, 1, none⟩) hW0).trans b1; have e2 := (hb1.cell (p := ⟨B, 2, none⟩) hW0).trans b2
      have f0 := (hb1.cell (p := ⟨B + 1, 0, none⟩) hW1).trans s0; have f1 := (hb1.cell (p := ⟨B + 1, 1, none⟩) hW1).trans s1; have f2 := (hb1.cell (p := ⟨B + 1, 2, none⟩) hW1).trans s2; have f3 := (hb1.cell (p := ⟨B + 1, 3, none⟩) hW1).trans s3; have f4 := (hb1.cell (p := ⟨B + 1, 4, none⟩) hW1).trans s4; have f5 := (hb1.cell (p := ⟨B + 1, 5, none⟩) hW1).trans s5
      have HA1 := Lib.hid (HA.out.below hb1); have HD1 := Lib.hid (HD.out.below hb1)
      have hX0 : B < w1.heap.size := by have := hb1.size; omega
      have hX1 : B + 1 < w1.heap.size := by have := hb1.size; omega
      clear b0 b1 b2 s0 s1 s2 s3 s4 s5 hb1 HA HD HB0 H2
      go_wp2_with fail
      refine (HH.out w1).mono ?_; rintro e w2 ⟨rfl, rfl⟩
      go_wp2
      go_ret
      exact ⟨ret_bool HV.out.symm, by rw [HBE.out]; exact HB1.out⟩
    rw [show inB h 1 9999 = true from inB_iff.2 q0] at HH
    by_cases q1 : 0 ≤ a ∧ a ≤ 100000
    rotate_left
    · have HV := Lib.hid (HV3.out q1)
      rw [show inB a 0 100000 = false from Bool.eq_false_iff.2 (fun e => q1 (inB_iff.1 e))] at HTI
      clear HV2 HV3 HV4 HKH HKL HKD HKN HT HST HEN HP HL HCI q0 q1
      go_enter Tryz.func62, Tryz.ntmps62
      go_wp2_with fail
      generalize hB : w.heap.size = B at *
      have HBE := Lib.hid hB; clear hB
      generalize (w.alloc (.cells #[.slice A l.length ca, .slice D zs.length cd, .int .i64 x] 36)).alloc (.cells #[.int .i64 h, .int .i64 a, .int .i64 k, .string p, .int .i64 g, .int .i64 d] 102) = W at *
      obtain ⟨h1, h2, h3, h4⟩ := H2.out
      have hBn := Box3.cells (show Box3 36 W B _ _ _ from h1)
      obtain ⟨b0, b1, b2⟩ := hBn
      obtain ⟨s0, s1, s2, s3, s4, s5⟩ := row6 h2
      have HB0 := Lib.hid h3
      have hW0 : B < W.heap.size := by omega
      have hW1 : B + 1 < W.heap.size := by omega
      clear h1 h2 h3
      refine (HI.out W HA.out HD.out).mono ?_; rintro e w1 ⟨rfl, hb1⟩
      have HB1 := Lib.hid (HB0.out.trans (hb1.mono (by omega)))
      have e0 := (hb1.cell (p := ⟨B, 0, none⟩) hW0).trans b0; have e1 := (hb1.cell (p := ⟨B, 1, none⟩) hW0).trans b1; have e2 := (hb1.cell (p := ⟨B, 2, none⟩) hW0).trans b2
      have f0 := (hb1.cell (p := ⟨B + 1, 0, none⟩) hW1).trans s0; have f1 := (hb1.cell (p := ⟨B + 1, 1, none⟩) hW1).trans s1; have f2 := (hb1.cell (p := ⟨B + 1, 2, none⟩) hW1).trans s2; have f3 := (hb1.cell (p := ⟨B + 1, 3, none⟩) hW1).trans s3; have f4 := (hb1.cell (p := ⟨B + 1, 4, none⟩) hW1).trans s4; have f5 := (hb1.cell (p := ⟨B + 1, 5, none⟩) hW1).trans s5
      have HA1 := Lib.hid (HA.out.below hb1); have HD1 := Lib.hid (HD.out.below hb1)
      have hX0 : B < w1.heap.size := by have := hb1.size; omega
      have hX1 : B + 1 < w1.heap.size := by have := hb1.size; omega
      clear b0 b1 b2 s0 s1 s2 s3 s4 s5 hb1 HA HD HB0 H2
      go_wp2_with fail
      refine (HH.out w1).mono ?_; rintro e w2 ⟨rfl, rfl⟩
      go_wp2_with fail
      refine (HTI.out w1).mono ?_; rintro e w2 ⟨rfl, rfl⟩
      go_wp2
      go_ret
      exact ⟨ret_bool HV.out.symm, by rw [HBE.out]; exact HB1.out⟩
    rw [show inB a 0 100000 = true from inB_iff.2 q1] at HTI
    have HVK := Lib.hid (HV4.out q0 q1)
    clear HV2 HV3 HV4 q0 q1
    by_cases k1 : k = 1
    · skip
      have t1 : (k == 1) = true := by simp [k1]
      have HV := Lib.hid (HVK.out.trans (HKH.out (by omega))); clear HVK k1 HKH HKL HKD HKN HT HST HEN
      rw [HCI.out] at HV; clear HCI
      have HIX := Lib.hid (fun PA cp W (h : StrsIn W PA (placesB l)) => index_spec PA cp (placesB l) p W h HL.out)
      generalize idxI (placesB l) p = J at *
      by_cases q2 : 0 ≤ J
      · have q3 : ¬ J < 0 := by omega
        have hJd : decide (0 ≤ J) = true := decide_eq_true q2
        by_cases q4 : g = 0 ∧ d = 0
        · skip
          have HV2 := Lib.hid (HV.out.trans (by rw [decide_eq_true q4, decide_eq_true q2, Bool.true_and])); clear HV
          have hEQ : ∀ W, Sem.run Tryz.prog (binOp BinOp.eql 52 (.agg #[.int .i64 g, .int .i64 d]) (.agg #[.int .i64 0, .int .i64 0])) W = .ok (.bool true) W := fun W => by
            rw [trip_eql]; by_cases e1 : g = 0 <;> by_cases e2 : d = 0 <;> simp_all
          clear q4
          go_enter Tryz.func62, Tryz.ntmps62
          go_wp2_with fail
          generalize hB : w.heap.size = B at *
          have HBE := Lib.hid hB; clear hB
          generalize (w.alloc (.cells #[.slice A l.length ca, .slice D zs.length cd, .int .i64 x] 36)).alloc (.cells #[.int .i64 h, .int .i64 a, .int .i64 k, .string p, .int .i64 g, .int .i64 d] 102) = W at *
          obtain ⟨h1, h2, h3, h4⟩ := H2.out
          have hBn := Box3.cells (show Box3 36 W B _ _ _ from h1)
          obtain ⟨b0, b1, b2⟩ := hBn
          obtain ⟨s0, s1, s2, s3, s4, s5⟩ := row6 h2
          have HB0 := Lib.hid h3
          have hW0 : B < W.heap.size := by omega
          have hW1 : B + 1 < W.heap.size := by omega
          clear h1 h2 h3
          refine (HI.out W HA.out HD.out).mono ?_; rintro e w1 ⟨rfl, hb1⟩
          have HB1 := Lib.hid (HB0.out.trans (hb1.mono (by omega)))
          have e0 := (hb1.cell (p := ⟨B, 0, none⟩) hW0).trans b0; have e1 := (hb1.cell (p := ⟨B, 1, none⟩) hW0).trans b1; have e2 := (hb1.cell (p := ⟨B, 2, none⟩) hW0).trans b2
          have f0 := (hb1.cell (p := ⟨B + 1, 0, none⟩) hW1).trans s0; have f1 := (hb1.cell (p := ⟨B + 1, 1, none⟩) hW1).trans s1; have f2 := (hb1.cell (p := ⟨B + 1, 2, none⟩) hW1).trans s2; have f3 := (hb1.cell (p := ⟨B + 1, 3, none⟩) hW1).trans s3; have f4 := (hb1.cell (p := ⟨B + 1, 4, none⟩) hW1).trans s4; have f5 := (hb1.cell (p := ⟨B + 1, 5, none⟩) hW1).trans s5
          have HA1 := Lib.hid (HA.out.below hb1); have HD1 := Lib.hid (HD.out.below hb1)
          have hX0 : B < w1.heap.size := by have := hb1.size; omega
          have hX1 : B + 1 < w1.heap.size := by have := hb1.size; omega
          clear b0 b1 b2 s0 s1 s2 s3 s4 s5 hb1 HA HD HB0 H2
          go_wp2_with fail
          refine (HH.out w1).mono ?_; rintro e w2 ⟨rfl, rfl⟩
          go_wp2_with fail
          refine (HTI.out w1).mono ?_; rintro e w2 ⟨rfl, rfl⟩
          go_wp2_with fail
          obtain ⟨WW, hWW⟩ : ∃ WW : World, WW = w1 := ⟨_, rfl⟩
          subst hWW
          go_region_held3 (fun w' => w'.cell? ⟨B, 0, none⟩ = some (.slice A l.length ca) ∧ w'.cell? ⟨B, 1, none⟩ = some (.slice D zs.length cd) ∧ w'.cell? ⟨B, 2, none⟩ = some (.int .i64 x) ∧ w'.cell? ⟨B + 1, 3, none⟩ = some (.string p) ∧ w'.cell? ⟨B + 1, 4, none⟩ = some (.int .i64 g) ∧ w'.cell? ⟨B + 1, 5, none⟩ = some (.int .i64 d))
            (go_keep)
            (first
              | (go_at_call 92; refine (HP.out _ (HA1.out.below ?_)).mono ?_; (focus (first | exact Below.refl _ _ | exact (Below.refl _ _).drew)); (rintro e u1 ⟨⟨v, rfl, hv⟩, hu⟩; obtain ⟨PA, cp, rfl, hPA⟩ := own_strs hv; (first | (have hb2 : Below WW.heap.size WW u1 := below_undrew hu) | (have hb2 : Below WW.heap.size WW u1 := hu)); have HC := Lib.hid (fun W' (hh : Below u1.heap.size u1 W') => HIX.out PA cp W' (hPA.below hh)); have g0 := (hb2.cell (p := ⟨B, 0, none⟩) hX0).trans e0; have g1 := (hb2.cell (p := ⟨B, 1, none⟩) hX0).trans e1; have g2 := (hb2.cell (p := ⟨B, 2, none⟩) hX0).trans e2; have g3 := (hb2.cell (p := ⟨B + 1, 3, none⟩) hX1).trans f3; have g4 := (hb2.cell (p := ⟨B + 1, 4, none⟩) hX1).trans f4; have g5 := (hb2.cell (p := ⟨B + 1, 5, none⟩) hX1).trans f5; clear hu hv hPA))
              | (go_at_call 91; refine (HC.out _ ?_).mono ?_; (focus (first | exact Below.refl _ _ | exact (Below.refl _ _).drew)); (rintro e u2 ⟨rfl, rfl⟩))
              | fail)
          all_goals
            go_wp2
            go_ret
            exact ⟨ret_bool HV2.out.symm, by rw [HBE.out]; exact HB1.out.trans (Below.mono (by first | exact hb2 | exact hb2.drew) (by omega))⟩
        · skip
          have HV2 := Lib.hid (HV.out.trans (by rw [decide_eq_false q4, Bool.false_and])); clear HV
          have hEQ : ∀ W, Sem.run Tryz.prog (binOp BinOp.eql 52 (.agg #[.int .i64 g, .int .i64 d]) (.agg #[.int .i64 0, .int .i64 0])) W = .ok (.bool false) W := fun W => by
            rw [trip_eql]; by_cases e1 : g = 0 <;> by_cases e2 : d = 0 <;> simp_all
          clear q4
          go_enter Tryz.func62, Tryz.ntmps62
          go_wp2_with fail
          generalize hB : w.heap.size = B at *
          have HBE := Lib.hid hB; clear hB
          generalize (w.alloc (.cells #[.slice A l.length ca, .slice D zs.length cd, .int .i64 x] 36)).alloc (.cells #[.int .i64 h, .int .i64 a, .int .i64 k, .string p, .int .i64 g, .int .i64 d] 102) = W at *
          obtain ⟨h1, h2, h3, h4⟩ := H2.out
          have hBn := Box3.cells (show Box3 36 W B _ _ _ from h1)
          obtain ⟨b0, b1, b2⟩ := hBn
          obtain ⟨s0, s1, s2, s3, s4, s5⟩ := row6 h2
          have HB0 := Lib.hid h3
          have hW0 : B < W.heap.size := by omega
          have hW1 : B + 1 < W.heap.size := by omega
          clear h1 h2 h3
          refine (HI.out W HA.out HD.out).mono ?_; rintro e w1 ⟨rfl, hb1⟩
          have HB1 := Lib.hid (HB0.out.trans (hb1.mono (by omega)))
          have e0 := (hb1.cell (p := ⟨B, 0, none⟩) hW0).trans b0; have e1 := (hb1.cell (p := ⟨B, 1, none⟩) hW0).trans b1; have e2 := (hb1.cell (p := ⟨B, 2, none⟩) hW0).trans b2
          have f0 := (hb1.cell (p := ⟨B + 1, 0, none⟩) hW1).trans s0; have f1 := (hb1.cell (p := ⟨B + 1, 1, none⟩) hW1).trans s1; have f2 := (hb1.cell (p := ⟨B + 1, 2, none⟩) hW1).trans s2; have f3 := (hb1.cell (p := ⟨B + 1, 3, none⟩) hW1).trans s3; have f4 := (hb1.cell (p := ⟨B + 1, 4, none⟩) hW1).trans s4; have f5 := (hb1.cell (p := ⟨B + 1, 5, none⟩) hW1).trans s5
          have HA1 := Lib.hid (HA.out.below hb1); have HD1 := Lib.hid (HD.out.below hb1)
          have hX0 : B < w1.heap.size := by have := hb1.size; omega
          have hX1 : B + 1 < w1.heap.size := by have := hb1.size; omega
          clear b0 b1 b2 s0 s1 s2 s3 s4 s5 hb1 HA HD HB0 H2
          go_wp2_with fail
          refine (HH.out w1).mono ?_; rintro e w2 ⟨rfl, rfl⟩
          go_wp2_with fail
          refine (HTI.out w1).mono ?_; rintro e w2 ⟨rfl, rfl⟩
          go_wp2_with fail
          obtain ⟨WW, hWW⟩ : ∃ WW : World, WW = w1 := ⟨_, rfl⟩
          subst hWW
          go_region_held3 (fun w' => w'.cell? ⟨B, 0, none⟩ = some (.slice A l.length ca) ∧ w'.cell? ⟨B, 1, none⟩ = some (.slice D zs.length cd) ∧ w'.cell? ⟨B, 2, none⟩ = some (.int .i64 x) ∧ w'.cell? ⟨B + 1, 3, none⟩ = some (.string p) ∧ w'.cell? ⟨B + 1, 4, none⟩ = some (.int .i64 g) ∧ w'.cell? ⟨B + 1, 5, none⟩ = some (.int .i64 d))
            (go_keep)
            (first
              | (go_at_call 92; refine (HP.out _ (HA1.out.below ?_)).mono ?_; (focus (first | exact Below.refl _ _ | exact (Below.refl _ _).drew)); (rintro e u1 ⟨⟨v, rfl, hv⟩, hu⟩; obtain ⟨PA, cp, rfl, hPA⟩ := own_strs hv; (first | (have hb2 : Below WW.heap.size WW u1 := below_undrew hu) | (have hb2 : Below WW.heap.size WW u1 := hu)); have HC := Lib.hid (fun W' (hh : Below u1.heap.size u1 W') => HIX.out PA cp W' (hPA.below hh)); have g0 := (hb2.cell (p := ⟨B, 0, none⟩) hX0).trans e0; have g1 := (hb2.cell (p := ⟨B, 1, none⟩) hX0).trans e1; have g2 := (hb2.cell (p := ⟨B, 2, none⟩) hX0).trans e2; have g3 := (hb2.cell (p := ⟨B + 1, 3, none⟩) hX1).trans f3; have g4 := (hb2.cell (p := ⟨B + 1, 4, none⟩) hX1).trans f4; have g5 := (hb2.cell (p := ⟨B + 1, 5, none⟩) hX1).trans f5; clear hu hv hPA))
              | (go_at_call 91; refine (HC.out _ ?_).mono ?_; (focus (first | exact Below.refl _ _ | exact (Below.refl _ _).drew)); (rintro e u2 ⟨rfl, rfl⟩))
              | fail)
          all_goals
            go_wp2
            go_ret
            exact ⟨ret_bool HV2.out.symm, by rw [HBE.out]; exact HB1.out.trans (Below.mono (by first | exact hb2 | exact hb2.drew) (by omega))⟩
      · have q3 : J < 0 := by omega
        have hJd : decide (0 ≤ J) = false := decide_eq_false q2
        have HV2 := Lib.hid (HV.out.trans (by rw [decide_eq_false q2, Bool.and_false])); clear HV
        go_enter Tryz.func62, Tryz.ntmps62
        go_wp2_with fail
        generalize hB : w.heap.size = B at *
        have HBE := Lib.hid hB; clear hB
        generalize (w.alloc (.cells #[.slice A l.length ca, .slice D zs.length cd, .int .i64 x] 36)).alloc (.cells #[.int .i64 h, .int .i64 a, .int .i64 k, .string p, .int .i64 g, .int .i64 d] 102) = W at *
        obtain ⟨h1, h2, h3, h4⟩ := H2.out
        have hBn := Box3.cells (show Box3 36 W B _ _ _ from h1)
        obtain ⟨b0, b1, b2⟩ := hBn
        obtain ⟨s0, s1, s2, s3, s4, s5⟩ := row6 h2
        have HB0 := Lib.hid h3
        have hW0 : B < W.heap.size := by omega
        have hW1 : B + 1 < W.heap.size := by omega
        clear h1 h2 h3
        refine (HI.out W HA.out HD.out).mono ?_; rintro e w1 ⟨rfl, hb1⟩
        have HB1 := Lib.hid (HB0.out.trans (hb1.mono (by omega)))
        have e0 := (hb1.cell (p := ⟨B, 0, none⟩) hW0).trans b0; have e1 := (hb1.cell (p := ⟨B, 1, none⟩) hW0).trans b1; have e2 := (hb1.cell (p := ⟨B, 2, none⟩) hW0).trans b2
        have f0 := (hb1.cell (p := ⟨B + 1, 0, none⟩) hW1).trans s0; have f1 := (hb1.cell (p := ⟨B + 1, 1, none⟩) hW1).trans s1; have f2 := (hb1.cell (p := ⟨B + 1, 2, none⟩) hW1).trans s2; have f3 := (hb1.cell (p := ⟨B + 1, 3, none⟩) hW1).trans s3; have f4 := (hb1.cell (p := ⟨B + 1, 4, none⟩) hW1).trans s4; have f5 := (hb1.cell (p := ⟨B + 1, 5, none⟩) hW1).trans s5
        have HA1 := Lib.hid (HA.out.below hb1); have HD1 := Lib.hid (HD.out.below hb1)
        have hX0 : B < w1.heap.size := by have := hb1.size; omega
        have hX1 : B + 1 < w1.heap.size := by have := hb1.size; omega
        clear b0 b1 b2 s0 s1 s2 s3 s4 s5 hb1 HA HD HB0 H2
        go_wp2_with fail
        refine (HH.out w1).mono ?_; rintro e w2 ⟨rfl, rfl⟩
        go_wp2_with fail
        refine (HTI.out w1).mono ?_; rintro e w2 ⟨rfl, rfl⟩
        go_wp2_with fail
        obtain ⟨WW, hWW⟩ : ∃ WW : World, WW = w1 := ⟨_, rfl⟩
        subst hWW
        refine wp_region_held_drew (S := fun w' => w'.cell? ⟨B, 0, none⟩ = some (.slice A l.length ca) ∧ w'.cell? ⟨B, 1, none⟩ = some (.slice D zs.length cd) ∧ w'.cell? ⟨B, 2, none⟩ = some (.int .i64 x) ∧ w'.cell? ⟨B + 1, 3, none⟩ = some (.string p) ∧ w'.cell? ⟨B + 1, 4, none⟩ = some (.int .i64 g) ∧ w'.cell? ⟨B + 1, 5, none⟩ = some (.int .i64 d)) (by kernel_rfl) ?_ (fun hHeld => ?_)
        · (try dsimp only); go_keep
        try dsimp only
        try simp only [Act.put]
        try simp only [List.setIfInBounds_toArray]
        try simp only [List.set_cons_zero, List.set_cons_succ]
        refine wpAnyH_take (i := 0) (oi := _) (v := ?vq1) rfl (by kernel_rfl) (by kernel_rfl) (by kernel_rfl) (fun _ _ _ h => h) (Or.inl ⟨by rfl, ?hyq1⟩) (by assumption) ?restq1
        case hyq1 => (intro w hSw; (try dsimp only at hSw); go_simp <;> try with_reducible rfl)
        try dsimp only
        try simp only [List.getElem_toArray, List.getElem_cons_zero]
        try simp only [Act.put]
        try simp only [List.setIfInBounds_toArray]
        try simp only [List.set_cons_zero, List.set_cons_succ]
        refine wpAnyH_take (i := 2) (oi := _) (v := ?vq2) rfl (by kernel_rfl) (by kernel_rfl) (by kernel_rfl) (fun _ _ _ h => h) (Or.inl ⟨by rfl, ?hyq2⟩) (by assumption) ?restq2
        case hyq2 => (intro w hSw; (try dsimp only at hSw); go_simp <;> try with_reducible rfl)
        try dsimp only
        try simp only [List.getElem_toArray, List.getElem_cons_succ, List.getElem_cons_zero]
        try simp only [Act.put]
        try simp only [List.setIfInBounds_toArray]
        try simp only [List.set_cons_zero, List.set_cons_succ]
        refine wpAnyH_take (i := 3) (oi := _) (v := ?vq3) rfl (by kernel_rfl) (by kernel_rfl) (by kernel_rfl) (fun _ _ _ h => h) (Or.inl ⟨by rfl, ?hyq3⟩) (by assumption) ?restq3
        case hyq3 => (intro w hSw; (try dsimp only at hSw); go_simp <;> try with_reducible rfl)
        try dsimp only
        try simp only [List.getElem_toArray, List.getElem_cons_succ, List.getElem_cons_zero]
        try simp only [Act.put]
        try simp only [List.setIfInBounds_toArray]
        try simp only [List.set_cons_zero, List.set_cons_succ]
        refine wpAnyH_ready (rs := [1]) (by kernel_rfl) (by simp) ?_
        refine AllReadyH.cons (o := _) rfl (fun K hK => ?_) AllReadyH.nil
        go_simp
        (go_at_call 92; refine (HP.out _ (HA1.out.below ?_)).mono ?_; (focus (first | exact Below.refl _ _ | exact (Below.refl _ _).drew)); (rintro e u1 ⟨⟨v, rfl, hv⟩, hu⟩; obtain ⟨PA, cp, rfl, hPA⟩ := own_strs hv; (first | (have hb2 : Below WW.heap.size WW u1 := below_undrew hu) | (have hb2 : Below WW.heap.size WW u1 := hu)); have HC := Lib.hid (fun W' (hh : Below u1.heap.size u1 W') => HIX.out PA cp W' (hPA.below hh)); have g0 := (hb2.cell (p := ⟨B, 0, none⟩) hX0).trans e0; have g1 := (hb2.cell (p := ⟨B, 1, none⟩) hX0).trans e1; have g2 := (hb2.cell (p := ⟨B, 2, none⟩) hX0).trans e2; have g3 := (hb2.cell (p := ⟨B + 1, 3, none⟩) hX1).trans f3; have g4 := (hb2.cell (p := ⟨B + 1, 4, none⟩) hX1).trans f4; have g5 := (hb2.cell (p := ⟨B + 1, 5, none⟩) hX1).trans f5; clear hu hv hPA))
        refine hK.out _ _ ?_ (fun hHeld => ?_)
        · (try dsimp only); go_keep
        clear hK K
        try dsimp only
        try simp only [List.getElem_toArray, List.getElem_cons_succ, List.getElem_cons_zero]
        try simp only [Act.put]
        try simp only [List.setIfInBounds_toArray]
        try simp only [List.set_cons_zero, List.set_cons_succ]
        refine wpAnyH_ready (rs := [4]) (by kernel_rfl) (by simp) ?_
        refine AllReadyH.cons (o := _) rfl (fun K hK => ?_) AllReadyH.nil
        go_simp
        (go_at_call 91; refine (HC.out _ ?_).mono ?_; (focus (first | exact Below.refl _ _ | exact (Below.refl _ _).drew)); (rintro e u2 ⟨rfl, rfl⟩))
        refine hK.out _ _ ?_ (fun hHeld => ?_)
        · (try dsimp only); go_keep
        clear hK K
        try dsimp only
        try simp only [List.getElem_toArray, List.getElem_cons_succ, List.getElem_cons_zero]
        try simp only [Act.put]
        try simp only [List.setIfInBounds_toArray]
        try simp only [List.set_cons_zero, List.set_cons_succ]
        refine wpAnyH_take (i := 5) (oi := _) (v := ?vq4) rfl (by kernel_rfl) (by kernel_rfl) (by kernel_rfl) (fun _ _ _ h => h) (Or.inl ⟨by rfl, ?hyq4⟩) (by assumption) ?restq4
        case hyq4 => (intro w hSw; (try dsimp only at hSw); go_simp <;> try with_reducible rfl)
        try dsimp only
        try simp only [List.getElem_toArray, List.getElem_cons_succ, List.getElem_cons_zero]
        try simp only [Act.put]
        try simp only [List.setIfInBounds_toArray]
        try simp only [List.set_cons_zero, List.set_cons_succ]
        refine wpAnyH_take (i := 6) (oi := _) (v := ?vq5) rfl (by kernel_rfl) (by kernel_rfl) (by kernel_rfl) (fun _ _ _ h => h) (Or.inl ⟨by rfl, ?hyq5⟩) (by assumption) ?restq5
        case hyq5 => (intro w hSw; (try dsimp only at hSw); go_simp <;> try with_reducible rfl)
        try dsimp only
        try simp only [List.getElem_toArray, List.getElem_cons_succ, List.getElem_cons_zero]
        try simp only [Act.put]
        try simp only [List.setIfInBounds_toArray]
        try simp only [List.set_cons_zero, List.set_cons_succ]
        refine wpAnyH_take (i := 7) (oi := _) (v := undef) rfl (by kernel_rfl) (by kernel_rfl) (by kernel_rfl) (fun _ _ _ h => h) (Or.inr ⟨by rfl, rfl⟩) (by assumption) ?_
        try dsimp only
        try simp only [List.getElem_toArray, List.getElem_cons_succ, List.getElem_cons_zero]
        try simp only [Act.put]
        try simp only [List.setIfInBounds_toArray]
        try simp only [List.set_cons_zero, List.set_cons_succ]
        refine wpAnyH_take (i := 8) (oi := _) (v := undef) rfl (by kernel_rfl) (by kernel_rfl) (by kernel_rfl) (fun _ _ _ h => h) (Or.inr ⟨by rfl, rfl⟩) (by assumption) ?_
        try dsimp only
        try simp only [List.getElem_toArray, List.getElem_cons_succ, List.getElem_cons_zero]
        try simp only [Act.put]
        try simp only [List.setIfInBounds_toArray]
        try simp only [List.set_cons_zero, List.set_cons_succ]
        refine wpAnyH_take (i := 9) (oi := _) (v := undef) rfl (by kernel_rfl) (by kernel_rfl) (by kernel_rfl) (fun _ _ _ h => h) (Or.inr ⟨by rfl, rfl⟩) (by assumption) ?_
        try dsimp only
        try simp only [List.getElem_toArray, List.getElem_cons_succ, List.getElem_cons_zero]
        try simp only [Act.put]
        try simp only [List.setIfInBounds_toArray]
        try simp only [List.set_cons_zero, List.set_cons_succ]
        refine wpAnyH_take (i := 10) (oi := _) (v := undef) rfl (by kernel_rfl) (by kernel_rfl) (by kernel_rfl) (fun _ _ _ h => h) (Or.inr ⟨by rfl, rfl⟩) (by assumption) ?_
        try dsimp only
        try simp only [List.getElem_toArray, List.getElem_cons_succ, List.getElem_cons_zero]
        try simp only [Act.put]
        try simp only [List.setIfInBounds_toArray]
        try simp only [List.set_cons_zero, List.set_cons_succ]
        refine wpAnyH_take (i := 11) (oi := _) (v := ?vq6) rfl (by kernel_rfl) (by kernel_rfl) (by kernel_rfl) (fun _ _ _ h => h) (Or.inl ⟨by rfl, ?hyq6⟩) (by assumption) ?restq6
        case hyq6 => (intro w hSw; (try dsimp only at hSw); go_simp <;> try with_reducible rfl)
        try dsimp only
        try simp only [List.getElem_toArray, List.getElem_cons_succ, List.getElem_cons_zero]
        try simp only [Act.put]
        try simp only [List.setIfInBounds_toArray]
        try simp only [List.set_cons_zero, List.set_cons_succ]
        refine wpAnyH_take (i := 12) (oi := _) (v := ?vq7) rfl (by kernel_rfl) (by kernel_rfl) (by kernel_rfl) (fun _ _ _ h => h) (Or.inl ⟨by rfl, ?hyq7⟩) (by assumption) ?restq7
        case hyq7 => (intro w hSw; (try dsimp only at hSw); go_simp <;> try with_reducible rfl)
        try dsimp only
        try simp only [List.getElem_toArray, List.getElem_cons_succ, List.getElem_cons_zero]
        try simp only [Act.put]
        try simp only [List.setIfInBounds_toArray]
        try simp only [List.set_cons_zero, List.set_cons_succ]
        refine wpAnyH_done (by kernel_rfl) ?_ _
        try dsimp only [Act.put, Oper.dst]
        try dsimp only
        try simp only [Act.put]
        try simp only [List.setIfInBounds_toArray]
        try simp only [List.set_cons_zero, List.set_cons_succ]
        all_goals
          go_wp2
          go_ret
          exact ⟨ret_bool HV2.out.symm, by rw [HBE.out]; exact HB1.out.trans (Below.mono (by first | exact hb2 | exact hb2.drew) (by omega))⟩
    by_cases k4 : k = 4
    · skip
      have t1 : (k == 1) = false := by simp [k1]
      have t4 : (k == 4) = true := by simp [k4]
      have HV := Lib.hid (HVK.out.trans (HKH.out (by omega))); clear HVK k4 HKH HKL HKD HKN HT HST HEN
      rw [HCI.out] at HV; clear HCI
      have HIX := Lib.hid (fun PA cp W (h : StrsIn W PA (placesB l)) => index_spec PA cp (placesB l) p W h HL.out)
      generalize idxI (placesB l) p = J at *
      by_cases q2 : 0 ≤ J
      · have q3 : ¬ J < 0 := by omega
        have hJd : decide (0 ≤ J) = true := decide_eq_true q2
        by_cases q4 : g = 0 ∧ d = 0
        · skip
          have HV2 := Lib.hid (HV.out.trans (by rw [decide_eq_true q4, decide_eq_true q2, Bool.true_and])); clear HV
          have hEQ : ∀ W, Sem.run Tryz.prog (binOp BinOp.eql 52 (.agg #[.int .i64 g, .int .i64 d]) (.agg #[.int .i64 0, .int .i64 0])) W = .ok (.bool true) W := fun W => by
            rw [trip_eql]; by_cases e1 : g = 0 <;> by_cases e2 : d = 0 <;> simp_all
          clear q4
          go_enter Tryz.func62, Tryz.ntmps62
          go_wp2_with fail
          generalize hB : w.heap.size = B at *
          have HBE := Lib.hid hB; clear hB
          generalize (w.alloc (.cells #[.slice A l.length ca, .slice D zs.length cd, .int .i64 x] 36)).alloc (.cells #[.int .i64 h, .int .i64 a, .int .i64 k, .string p, .int .i64 g, .int .i64 d] 102) = W at *
          obtain ⟨h1, h2, h3, h4⟩ := H2.out
          have hBn := Box3.cells (show Box3 36 W B _ _ _ from h1)
          obtain ⟨b0, b1, b2⟩ := hBn
          obtain ⟨s0, s1, s2, s3, s4, s5⟩ := row6 h2
          have HB0 := Lib.hid h3
          have hW0 : B < W.heap.size := by omega
          have hW1 : B + 1 < W.heap.size := by omega
          clear h1 h2 h3
          refine (HI.out W HA.out HD.out).mono ?_; rintro e w1 ⟨rfl, hb1⟩
          have HB1 := Lib.hid (HB0.out.trans (hb1.mono (by omega)))
          have e0 := (hb1.cell (p := ⟨B, 0, none⟩) hW0).trans b0; have e1 := (hb1.cell (p := ⟨B, 1, none⟩) hW0).trans b1; have e2 := (hb1.cell (p := ⟨B, 2, none⟩) hW0).trans b2
          have f0 := (hb1.cell (p := ⟨B + 1, 0, none⟩) hW1).trans s0; have f1 := (hb1.cell (p := ⟨B + 1, 1, none⟩) hW1).trans s1; have f2 := (hb1.cell (p := ⟨B + 1, 2, none⟩) hW1).trans s2; have f3 := (hb1.cell (p := ⟨B + 1, 3, none⟩) hW1).trans s3; have f4 := (hb1.cell (p := ⟨B + 1, 4, none⟩) hW1).trans s4; have f5 := (hb1.cell (p := ⟨B + 1, 5, none⟩) hW1).trans s5
          have HA1 := Lib.hid (HA.out.below hb1); have HD1 := Lib.hid (HD.out.below hb1)
          have hX0 : B < w1.heap.size := by have := hb1.size; omega
          have hX1 : B + 1 < w1.heap.size := by have := hb1.size; omega
          clear b0 b1 b2 s0 s1 s2 s3 s4 s5 hb1 HA HD HB0 H2
          go_wp2_with fail
          refine (HH.out w1).mono ?_; rintro e w2 ⟨rfl, rfl⟩
          go_wp2_with fail
          refine (HTI.out w1).mono ?_; rintro e w2 ⟨rfl, rfl⟩
          go_wp2_with fail
          obtain ⟨WW, hWW⟩ : ∃ WW : World, WW = w1 := ⟨_, rfl⟩
          subst hWW
          go_region_held3 (fun w' => w'.cell? ⟨B, 0, none⟩ = some (.slice A l.length ca) ∧ w'.cell? ⟨B, 1, none⟩ = some (.slice D zs.length cd) ∧ w'.cell? ⟨B, 2, none⟩ = some (.int .i64 x) ∧ w'.cell? ⟨B + 1, 3, none⟩ = some (.string p) ∧ w'.cell? ⟨B + 1, 4, none⟩ = some (.int .i64 g) ∧ w'.cell? ⟨B + 1, 5, none⟩ = some (.int .i64 d))
            (go_keep)
            (first
              | (go_at_call 92; refine (HP.out _ (HA1.out.below ?_)).mono ?_; (focus (first | exact Below.refl _ _ | exact (Below.refl _ _).drew)); (rintro e u1 ⟨⟨v, rfl, hv⟩, hu⟩; obtain ⟨PA, cp, rfl, hPA⟩ := own_strs hv; (first | (have hb2 : Below WW.heap.size WW u1 := below_undrew hu) | (have hb2 : Below WW.heap.size WW u1 := hu)); have HC := Lib.hid (fun W' (hh : Below u1.heap.size u1 W') => HIX.out PA cp W' (hPA.below hh)); have g0 := (hb2.cell (p := ⟨B, 0, none⟩) hX0).trans e0; have g1 := (hb2.cell (p := ⟨B, 1, none⟩) hX0).trans e1; have g2 := (hb2.cell (p := ⟨B, 2, none⟩) hX0).trans e2; have g3 := (hb2.cell (p := ⟨B + 1, 3, none⟩) hX1).trans f3; have g4 := (hb2.cell (p := ⟨B + 1, 4, none⟩) hX1).trans f4; have g5 := (hb2.cell (p := ⟨B + 1, 5, none⟩) hX1).trans f5; clear hu hv hPA))
              | (go_at_call 91; refine (HC.out _ ?_).mono ?_; (focus (first | exact Below.refl _ _ | exact (Below.refl _ _).drew)); (rintro e u2 ⟨rfl, rfl⟩))
              | fail)
          all_goals
            go_wp2
            go_ret
            exact ⟨ret_bool HV2.out.symm, by rw [HBE.out]; exact HB1.out.trans (Below.mono (by first | exact hb2 | exact hb2.drew) (by omega))⟩
        · skip
          have HV2 := Lib.hid (HV.out.trans (by rw [decide_eq_false q4, Bool.false_and])); clear HV
          have hEQ : ∀ W, Sem.run Tryz.prog (binOp BinOp.eql 52 (.agg #[.int .i64 g, .int .i64 d]) (.agg #[.int .i64 0, .int .i64 0])) W = .ok (.bool false) W := fun W => by
            rw [trip_eql]; by_cases e1 : g = 0 <;> by_cases e2 : d = 0 <;> simp_all
          clear q4
          go_enter Tryz.func62, Tryz.ntmps62
          go_wp2_with fail
          generalize hB : w.heap.size = B at *
          have HBE := Lib.hid hB; clear hB
          generalize (w.alloc (.cells #[.slice A l.length ca, .slice D zs.length cd, .int .i64 x] 36)).alloc (.cells #[.int .i64 h, .int .i64 a, .int .i64 k, .string p, .int .i64 g, .int .i64 d] 102) = W at *
          obtain ⟨h1, h2, h3, h4⟩ := H2.out
          have hBn := Box3.cells (show Box3 36 W B _ _ _ from h1)
          obtain ⟨b0, b1, b2⟩ := hBn
          obtain ⟨s0, s1, s2, s3, s4, s5⟩ := row6 h2
          have HB0 := Lib.hid h3
          have hW0 : B < W.heap.size := by omega
          have hW1 : B + 1 < W.heap.size := by omega
          clear h1 h2 h3
          refine (HI.out W HA.out HD.out).mono ?_; rintro e w1 ⟨rfl, hb1⟩
          have HB1 := Lib.hid (HB0.out.trans (hb1.mono (by omega)))
          have e0 := (hb1.cell (p := ⟨B, 0, none⟩) hW0).trans b0; have e1 := (hb1.cell (p := ⟨B, 1, none⟩) hW0).trans b1; have e2 := (hb1.cell (p := ⟨B, 2, none⟩) hW0).trans b2
          have f0 := (hb1.cell (p := ⟨B + 1, 0, none⟩) hW1).trans s0; have f1 := (hb1.cell (p := ⟨B + 1, 1, none⟩) hW1).trans s1; have f2 := (hb1.cell (p := ⟨B + 1, 2, none⟩) hW1).trans s2; have f3 := (hb1.cell (p := ⟨B + 1, 3, none⟩) hW1).trans s3; have f4 := (hb1.cell (p := ⟨B + 1, 4, none⟩) hW1).trans s4; have f5 := (hb1.cell (p := ⟨B + 1, 5, none⟩) hW1).trans s5
          have HA1 := Lib.hid (HA.out.below hb1); have HD1 := Lib.hid (HD.out.below hb1)
          have hX0 : B < w1.heap.size := by have := hb1.size; omega
          have hX1 : B + 1 < w1.heap.size := by have := hb1.size; omega
          clear b0 b1 b2 s0 s1 s2 s3 s4 s5 hb1 HA HD HB0 H2
          go_wp2_with fail
          refine (HH.out w1).mono ?_; rintro e w2 ⟨rfl, rfl⟩
          go_wp2_with fail
          refine (HTI.out w1).mono ?_; rintro e w2 ⟨rfl, rfl⟩
          go_wp2_with fail
          obtain ⟨WW, hWW⟩ : ∃ WW : World, WW = w1 := ⟨_, rfl⟩
          subst hWW
          go_region_held3 (fun w' => w'.cell? ⟨B, 0, none⟩ = some (.slice A l.length ca) ∧ w'.cell? ⟨B, 1, none⟩ = some (.slice D zs.length cd) ∧ w'.cell? ⟨B, 2, none⟩ = some (.int .i64 x) ∧ w'.cell? ⟨B + 1, 3, none⟩ = some (.string p) ∧ w'.cell? ⟨B + 1, 4, none⟩ = some (.int .i64 g) ∧ w'.cell? ⟨B + 1, 5, none⟩ = some (.int .i64 d))
            (go_keep)
            (first
              | (go_at_call 92; refine (HP.out _ (HA1.out.below ?_)).mono ?_; (focus (first | exact Below.refl _ _ | exact (Below.refl _ _).drew)); (rintro e u1 ⟨⟨v, rfl, hv⟩, hu⟩; obtain ⟨PA, cp, rfl, hPA⟩ := own_strs hv; (first | (have hb2 : Below WW.heap.size WW u1 := below_undrew hu) | (have hb2 : Below WW.heap.size WW u1 := hu)); have HC := Lib.hid (fun W' (hh : Below u1.heap.size u1 W') => HIX.out PA cp W' (hPA.below hh)); have g0 := (hb2.cell (p := ⟨B, 0, none⟩) hX0).trans e0; have g1 := (hb2.cell (p := ⟨B, 1, none⟩) hX0).trans e1; have g2 := (hb2.cell (p := ⟨B, 2, none⟩) hX0).trans e2; have g3 := (hb2.cell (p := ⟨B + 1, 3, none⟩) hX1).trans f3; have g4 := (hb2.cell (p := ⟨B + 1, 4, none⟩) hX1).trans f4; have g5 := (hb2.cell (p := ⟨B + 1, 5, none⟩) hX1).trans f5; clear hu hv hPA))
              | (go_at_call 91; refine (HC.out _ ?_).mono ?_; (focus (first | exact Below.refl _ _ | exact (Below.refl _ _).drew)); (rintro e u2 ⟨rfl, rfl⟩))
              | fail)
          all_goals
            go_wp2
            go_ret
            exact ⟨ret_bool HV2.out.symm, by rw [HBE.out]; exact HB1.out.trans (Below.mono (by first | exact hb2 | exact hb2.drew) (by omega))⟩
      · have q3 : J < 0 := by omega
        have hJd : decide (0 ≤ J) = false := decide_eq_false q2
        have HV2 := Lib.hid (HV.out.trans (by rw [decide_eq_false q2, Bool.and_false])); clear HV
        go_enter Tryz.func62, Tryz.ntmps62
        go_wp2_with fail
        generalize hB : w.heap.size = B at *
        have HBE := Lib.hid hB; clear hB
        generalize (w.alloc (.cells #[.slice A l.length ca, .slice D zs.length cd, .int .i64 x] 36)).alloc (.cells #[.int .i64 h, .int .i64 a, .int .i64 k, .string p, .int .i64 g, .int .i64 d] 102) = W at *
        obtain ⟨h1, h2, h3, h4⟩ := H2.out
        have hBn := Box3.cells (show Box3 36 W B _ _ _ from h1)
        obtain ⟨b0, b1, b2⟩ := hBn
        obtain ⟨s0, s1, s2, s3, s4, s5⟩ := row6 h2
        have HB0 := Lib.hid h3
        have hW0 : B < W.heap.size := by omega
        have hW1 : B + 1 < W.heap.size := by omega
        clear h1 h2 h3
        refine (HI.out W HA.out HD.out).mono ?_; rintro e w1 ⟨rfl, hb1⟩
        have HB1 := Lib.hid (HB0.out.trans (hb1.mono (by omega)))
        have e0 := (hb1.cell (p := ⟨B, 0, none⟩) hW0).trans b0; have e1 := (hb1.cell (p := ⟨B, 1, none⟩) hW0).trans b1; have e2 := (hb1.cell (p := ⟨B, 2, none⟩) hW0).trans b2
        have f0 := (hb1.cell (p := ⟨B + 1, 0, none⟩) hW1).trans s0; have f1 := (hb1.cell (p := ⟨B + 1, 1, none⟩) hW1).trans s1; have f2 := (hb1.cell (p := ⟨B + 1, 2, none⟩) hW1).trans s2; have f3 := (hb1.cell (p := ⟨B + 1, 3, none⟩) hW1).trans s3; have f4 := (hb1.cell (p := ⟨B + 1, 4, none⟩) hW1).trans s4; have f5 := (hb1.cell (p := ⟨B + 1, 5, none⟩) hW1).trans s5
        have HA1 := Lib.hid (HA.out.below hb1); have HD1 := Lib.hid (HD.out.below hb1)
        have hX0 : B < w1.heap.size := by have := hb1.size; omega
        have hX1 : B + 1 < w1.heap.size := by have := hb1.size; omega
        clear b0 b1 b2 s0 s1 s2 s3 s4 s5 hb1 HA HD HB0 H2
        go_wp2_with fail
        refine (HH.out w1).mono ?_; rintro e w2 ⟨rfl, rfl⟩
        go_wp2_with fail
        refine (HTI.out w1).mono ?_; rintro e w2 ⟨rfl, rfl⟩
        go_wp2_with fail
        obtain ⟨WW, hWW⟩ : ∃ WW : World, WW = w1 := ⟨_, rfl⟩
        subst hWW
        refine wp_region_held_drew (S := fun w' => w'.cell? ⟨B, 0, none⟩ = some (.slice A l.length ca) ∧ w'.cell? ⟨B, 1, none⟩ = some (.slice D zs.length cd) ∧ w'.cell? ⟨B, 2, none⟩ = some (.int .i64 x) ∧ w'.cell? ⟨B + 1, 3, none⟩ = some (.string p) ∧ w'.cell? ⟨B + 1, 4, none⟩ = some (.int .i64 g) ∧ w'.cell? ⟨B + 1, 5, none⟩ = some (.int .i64 d)) (by kernel_rfl) ?_ (fun hHeld => ?_)
        · (try dsimp only); go_keep
        try dsimp only
        try simp only [Act.put]
        try simp only [List.setIfInBounds_toArray]
        try simp only [List.set_cons_zero, List.set_cons_succ]
        refine wpAnyH_take (i := 0) (oi := _) (v := ?vq8) rfl (by kernel_rfl) (by kernel_rfl) (by kernel_rfl) (fun _ _ _ h => h) (Or.inl ⟨by rfl, ?hyq8⟩) (by assumption) ?restq8
        case hyq8 => (intro w hSw; (try dsimp only at hSw); go_simp <;> try with_reducible rfl)
        try dsimp only
        try simp only [List.getElem_toArray, List.getElem_cons_zero]
        try simp only [Act.put]
        try simp only [List.setIfInBounds_toArray]
        try simp only [List.set_cons_zero, List.set_cons_succ]
        refine wpAnyH_take (i := 2) (oi := _) (v := ?vq9) rfl (by kernel_rfl) (by kernel_rfl) (by kernel_rfl) (fun _ _ _ h => h) (Or.inl ⟨by rfl, ?hyq9⟩) (by assumption) ?restq9
        case hyq9 => (intro w hSw; (try dsimp only at hSw); go_simp <;> try with_reducible rfl)
        try dsimp only
        try simp only [List.getElem_toArray, List.getElem_cons_succ, List.getElem_cons_zero]
        try simp only [Act.put]
        try simp only [List.setIfInBounds_toArray]
        try simp only [List.set_cons_zero, List.set_cons_succ]
        refine wpAnyH_take (i := 3) (oi := _) (v := ?vq10) rfl (by kernel_rfl) (by kernel_rfl) (by kernel_rfl) (fun _ _ _ h => h) (Or.inl ⟨by rfl, ?hyq10⟩) (by assumption) ?restq10
        case hyq10 => (intro w hSw; (try dsimp only at hSw); go_simp <;> try with_reducible rfl)
        try dsimp only
        try simp only [List.getElem_toArray, List.getElem_cons_succ, List.getElem_cons_zero]
        try simp only [Act.put]
        try simp only [List.setIfInBounds_toArray]
        try simp only [List.set_cons_zero, List.set_cons_succ]
        refine wpAnyH_ready (rs := [1]) (by kernel_rfl) (by simp) ?_
        refine AllReadyH.cons (o := _) rfl (fun K hK => ?_) AllReadyH.nil
        go_simp
        (go_at_call 92; refine (HP.out _ (HA1.out.below ?_)).mono ?_; (focus (first | exact Below.refl _ _ | exact (Below.refl _ _).drew)); (rintro e u1 ⟨⟨v, rfl, hv⟩, hu⟩; obtain ⟨PA, cp, rfl, hPA⟩ := own_strs hv; (first | (have hb2 : Below WW.heap.size WW u1 := below_undrew hu) | (have hb2 : Below WW.heap.size WW u1 := hu)); have HC := Lib.hid (fun W' (hh : Below u1.heap.size u1 W') => HIX.out PA cp W' (hPA.below hh)); have g0 := (hb2.cell (p := ⟨B, 0, none⟩) hX0).trans e0; have g1 := (hb2.cell (p := ⟨B, 1, none⟩) hX0).trans e1; have g2 := (hb2.cell (p := ⟨B, 2, none⟩) hX0).trans e2; have g3 := (hb2.cell (p := ⟨B + 1, 3, none⟩) hX1).trans f3; have g4 := (hb2.cell (p := ⟨B + 1, 4, none⟩) hX1).trans f4; have g5 := (hb2.cell (p := ⟨B + 1, 5, none⟩) hX1).trans f5; clear hu hv hPA))
        refine hK.out _ _ ?_ (fun hHeld => ?_)
        · (try dsimp only); go_keep
        clear hK K
        try dsimp only
        try simp only [List.getElem_toArray, List.getElem_cons_succ, List.getElem_cons_zero]
        try simp only [Act.put]
        try simp only [List.setIfInBounds_toArray]
        try simp only [List.set_cons_zero, List.set_cons_succ]
        refine wpAnyH_ready (rs := [4]) (by kernel_rfl) (by simp) ?_
        refine AllReadyH.cons (o := _) rfl (fun K hK => ?_) AllReadyH.nil
        go_simp
        (go_at_call 91; refine (HC.out _ ?_).mono ?_; (focus (first | exact Below.refl _ _ | exact (Below.refl _ _).drew)); (rintro e u2 ⟨rfl, rfl⟩))
        refine hK.out _ _ ?_ (fun hHeld => ?_)
        · (try dsimp only); go_keep
        clear hK K
        try dsimp only
        try simp only [List.getElem_toArray, List.getElem_cons_succ, List.getElem_cons_zero]
        try simp only [Act.put]
        try simp only [List.setIfInBounds_toArray]
        try simp only [List.set_cons_zero, List.set_cons_succ]
        refine wpAnyH_take (i := 5) (oi := _) (v := ?vq11) rfl (by kernel_rfl) (by kernel_rfl) (by kernel_rfl) (fun _ _ _ h => h) (Or.inl ⟨by rfl, ?hyq11⟩) (by assumption) ?restq11
        case hyq11 => (intro w hSw; (try dsimp only at hSw); go_simp <;> try with_reducible rfl)
        try dsimp only
        try simp only [List.getElem_toArray, List.getElem_cons_succ, List.getElem_cons_zero]
        try simp only [Act.put]
        try simp only [List.setIfInBounds_toArray]
        try simp only [List.set_cons_zero, List.set_cons_succ]
        refine wpAnyH_take (i := 6) (oi := _) (v := ?vq12) rfl (by kernel_rfl) (by kernel_rfl) (by kernel_rfl) (fun _ _ _ h => h) (Or.inl ⟨by rfl, ?hyq12⟩) (by assumption) ?restq12
        case hyq12 => (intro w hSw; (try dsimp only at hSw); go_simp <;> try with_reducible rfl)
        try dsimp only
        try simp only [List.getElem_toArray, List.getElem_cons_succ, List.getElem_cons_zero]
        try simp only [Act.put]
        try simp only [List.setIfInBounds_toArray]
        try simp only [List.set_cons_zero, List.set_cons_succ]
        refine wpAnyH_take (i := 7) (oi := _) (v := undef) rfl (by kernel_rfl) (by kernel_rfl) (by kernel_rfl) (fun _ _ _ h => h) (Or.inr ⟨by rfl, rfl⟩) (by assumption) ?_
        try dsimp only
        try simp only [List.getElem_toArray, List.getElem_cons_succ, List.getElem_cons_zero]
        try simp only [Act.put]
        try simp only [List.setIfInBounds_toArray]
        try simp only [List.set_cons_zero, List.set_cons_succ]
        refine wpAnyH_take (i := 8) (oi := _) (v := undef) rfl (by kernel_rfl) (by kernel_rfl) (by kernel_rfl) (fun _ _ _ h => h) (Or.inr ⟨by rfl, rfl⟩) (by assumption) ?_
        try dsimp only
        try simp only [List.getElem_toArray, List.getElem_cons_succ, List.getElem_cons_zero]
        try simp only [Act.put]
        try simp only [List.setIfInBounds_toArray]
        try simp only [List.set_cons_zero, List.set_cons_succ]
        refine wpAnyH_take (i := 9) (oi := _) (v := undef) rfl (by kernel_rfl) (by kernel_rfl) (by kernel_rfl) (fun _ _ _ h => h) (Or.inr ⟨by rfl, rfl⟩) (by assumption) ?_
        try dsimp only
        try simp only [List.getElem_toArray, List.getElem_cons_succ, List.getElem_cons_zero]
        try simp only [Act.put]
        try simp only [List.setIfInBounds_toArray]
        try simp only [List.set_cons_zero, List.set_cons_succ]
        refine wpAnyH_take (i := 10) (oi := _) (v := undef) rfl (by kernel_rfl) (by kernel_rfl) (by kernel_rfl) (fun _ _ _ h => h) (Or.inr ⟨by rfl, rfl⟩) (by assumption) ?_
        try dsimp only
        try simp only [List.getElem_toArray, List.getElem_cons_succ, List.getElem_cons_zero]
        try simp only [Act.put]
        try simp only [List.setIfInBounds_toArray]
        try simp only [List.set_cons_zero, List.set_cons_succ]
        refine wpAnyH_take (i := 11) (oi := _) (v := ?vq13) rfl (by kernel_rfl) (by kernel_rfl) (by kernel_rfl) (fun _ _ _ h => h) (Or.inl ⟨by rfl, ?hyq13⟩) (by assumption) ?restq13
        case hyq13 => (intro w hSw; (try dsimp only at hSw); go_simp <;> try with_reducible rfl)
        try dsimp only
        try simp only [List.getElem_toArray, List.getElem_cons_succ, List.getElem_cons_zero]
        try simp only [Act.put]
        try simp only [List.setIfInBounds_toArray]
        try simp only [List.set_cons_zero, List.set_cons_succ]
        refine wpAnyH_take (i := 12) (oi := _) (v := ?vq14) rfl (by kernel_rfl) (by kernel_rfl) (by kernel_rfl) (fun _ _ _ h => h) (Or.inl ⟨by rfl, ?hyq14⟩) (by assumption) ?restq14
        case hyq14 => (intro w hSw; (try dsimp only at hSw); go_simp <;> try with_reducible rfl)
        try dsimp only
        try simp only [List.getElem_toArray, List.getElem_cons_succ, List.getElem_cons_zero]
        try simp only [Act.put]
        try simp only [List.setIfInBounds_toArray]
        try simp only [List.set_cons_zero, List.set_cons_succ]
        refine wpAnyH_done (by kernel_rfl) ?_ _
        try dsimp only [Act.put, Oper.dst]
        try dsimp only
        try simp only [Act.put]
        try simp only [List.setIfInBounds_toArray]
        try simp only [List.set_cons_zero, List.set_cons_succ]
        all_goals
          go_wp2
          go_ret
          exact ⟨ret_bool HV2.out.symm, by rw [HBE.out]; exact HB1.out.trans (Below.mono (by first | exact hb2 | exact hb2.drew) (by omega))⟩
    by_cases k3 : k = 3
    · skip
      have t1 : (k == 1) = false := by simp [k3]
      have t4 : (k == 4) = false := by simp [k3]
      have t3 : (k == 3) = true := by simp [k3]
      have HV := Lib.hid (HVK.out.trans (HKL.out k3)); clear HVK k3 HKH HKL HKD HKN HP HL HCI
      by_cases q1 : p = ⟨#[]⟩
      · subst q1
        cases hR : trB l zs x ⟨g, d⟩ with
        | false =>
          have HV2 := Lib.hid (HV.out.trans (by rw [hR, Bool.false_and, Bool.and_false])); clear HV HST HEN
          rw [show ronB l zs x g d = false from hR] at HT
          clear hR
          go_enter Tryz.func62, Tryz.ntmps62
          go_wp2_with fail
          generalize hB : w.heap.size = B at *
          have HBE := Lib.hid hB; clear hB
          generalize (w.alloc (.cells #[.slice A l.length ca, .slice D zs.length cd, .int .i64 x] 36)).alloc (.cells #[.int .i64 h, .int .i64 a, .int .i64 k, .string ⟨#[]⟩, .int .i64 g, .int .i64 d] 102) = W at *
          obtain ⟨h1, h2, h3, h4⟩ := H2.out
          have hBn := Box3.cells (show Box3 36 W B _ _ _ from h1)
          obtain ⟨b0, b1, b2⟩ := hBn
          obtain ⟨s0, s1, s2, s3, s4, s5⟩ := row6 h2
          have HB0 := Lib.hid h3
          have hW0 : B < W.heap.size := by omega
          have hW1 : B + 1 < W.heap.size := by omega
          clear h1 h2 h3
          refine (HI.out W HA.out HD.out).mono ?_; rintro e w1 ⟨rfl, hb1⟩
          have HB1 := Lib.hid (HB0.out.trans (hb1.mono (by omega)))
          have e0 := (hb1.cell (p := ⟨B, 0, none⟩) hW0).trans b0; have e1 := (hb1.cell (p := ⟨B, 1, none⟩) hW0).trans b1; have e2 := (hb1.cell (p := ⟨B, 2, none⟩) hW0).trans b2
          have f0 := (hb1.cell (p := ⟨B + 1, 0, none⟩) hW1).trans s0; have f1 := (hb1.cell (p := ⟨B + 1, 1, none⟩) hW1).trans s1; have f2 := (hb1.cell (p := ⟨B + 1, 2, none⟩) hW1).trans s2; have f3 := (hb1.cell (p := ⟨B + 1, 3, none⟩) hW1).trans s3; have f4 := (hb1.cell (p := ⟨B + 1, 4, none⟩) hW1).trans s4; have f5 := (hb1.cell (p := ⟨B + 1, 5, none⟩) hW1).trans s5
          have HA1 := Lib.hid (HA.out.below hb1); have HD1 := Lib.hid (HD.out.below hb1)
          have hX0 : B < w1.heap.size := by have := hb1.size; omega
          have hX1 : B + 1 < w1.heap.size := by have := hb1.size; omega
          clear b0 b1 b2 s0 s1 s2 s3 s4 s5 hb1 HA HD HB0 H2
          go_wp2_with fail
          refine (HH.out w1).mono ?_; rintro e w2 ⟨rfl, rfl⟩
          go_wp2_with fail
          refine (HTI.out w1).mono ?_; rintro e w2 ⟨rfl, rfl⟩
          have HF0 := far_cell hX0 e0; have HF1 := far_cell hX0 e1; have HF2 := far_cell hX0 e2; have HS1 := far_cell hX1 f1; have HS2 := far_cell hX1 f2; have HS3 := far_cell hX1 f3; have HS4 := far_cell hX1 f4; have HS5 := far_cell hX1 f5
          have HTF := Lib.hid (fun x' => HT.out (far w1 x') (HA1.out.below (below_far w1 x')) (HD1.out.below (below_far w1 x')))
          go_wp2_with fail
          refine wp_region_far (by kernel_rfl) (by kernel_rfl) ?_
          repeat (any_goals (first | go_big_quiet_step ((first | (go_at_call 93; with_reducible exact call_far (HTF.out _)))) | quiet_step ((first | (go_at_call 93; with_reducible exact call_far (HTF.out _))))))
          refine wpQuiet_nil ?_; intro w2 hw2
          have hbw2 : Below w1.heap.size w1 w2 := by obtain ⟨u, rfl⟩ := hw2; exact below_far w1 u
          clear hw2
          go_wp2
          go_ret
          exact ⟨ret_bool HV2.out.symm, by rw [HBE.out]; exact HB1.out.trans (hbw2.mono (by omega))⟩
        | true =>
          have HSX := Lib.hid (HST.out hR)
          have HV2 := Lib.hid (HV.out.trans (by rw [hR, Bool.true_and, decide_eq_true (rfl : (⟨#[]⟩ : ByteArray) = ⟨#[]⟩), Bool.true_and])); clear HV HST HEN
          rw [show ronB l zs x g d = true from hR] at HT
          clear hR
          generalize trS l ⟨g, d⟩ = S at *
          go_enter Tryz.func62, Tryz.ntmps62
          go_wp2_with fail
          generalize hB : w.heap.size = B at *
          have HBE := Lib.hid hB; clear hB
          generalize (w.alloc (.cells #[.slice A l.length ca, .slice D zs.length cd, .int .i64 x] 36)).alloc (.cells #[.int .i64 h, .int .i64 a, .int .i64 k, .string ⟨#[]⟩, .int .i64 g, .int .i64 d] 102) = W at *
          obtain ⟨h1, h2, h3, h4⟩ := H2.out
          have hBn := Box3.cells (show Box3 36 W B _ _ _ from h1)
          obtain ⟨b0, b1, b2⟩ := hBn
          obtain ⟨s0, s1, s2, s3, s4, s5⟩ := row6 h2
          have HB0 := Lib.hid h3
          have hW0 : B < W.heap.size := by omega
          have hW1 : B + 1 < W.heap.size := by omega
          clear h1 h2 h3
          refine (HI.out W HA.out HD.out).mono ?_; rintro e w1 ⟨rfl, hb1⟩
          have HB1 := Lib.hid (HB0.out.trans (hb1.mono (by omega)))
          have e0 := (hb1.cell (p := ⟨B, 0, none⟩) hW0).trans b0; have e1 := (hb1.cell (p := ⟨B, 1, none⟩) hW0).trans b1; have e2 := (hb1.cell (p := ⟨B, 2, none⟩) hW0).trans b2
          have f0 := (hb1.cell (p := ⟨B + 1, 0, none⟩) hW1).trans s0; have f1 := (hb1.cell (p := ⟨B + 1, 1, none⟩) hW1).trans s1; have f2 := (hb1.cell (p := ⟨B + 1, 2, none⟩) hW1).trans s2; have f3 := (hb1.cell (p := ⟨B + 1, 3, none⟩) hW1).trans s3; have f4 := (hb1.cell (p := ⟨B + 1, 4, none⟩) hW1).trans s4; have f5 := (hb1.cell (p := ⟨B + 1, 5, none⟩) hW1).trans s5
          have HA1 := Lib.hid (HA.out.below hb1); have HD1 := Lib.hid (HD.out.below hb1)
          have hX0 : B < w1.heap.size := by have := hb1.size; omega
          have hX1 : B + 1 < w1.heap.size := by have := hb1.size; omega
          clear b0 b1 b2 s0 s1 s2 s3 s4 s5 hb1 HA HD HB0 H2
          go_wp2_with fail
          refine (HH.out w1).mono ?_; rintro e w2 ⟨rfl, rfl⟩
          go_wp2_with fail
          refine (HTI.out w1).mono ?_; rintro e w2 ⟨rfl, rfl⟩
          have HF0 := far_cell hX0 e0; have HF1 := far_cell hX0 e1; have HF2 := far_cell hX0 e2; have HS1 := far_cell hX1 f1; have HS2 := far_cell hX1 f2; have HS3 := far_cell hX1 f3; have HS4 := far_cell hX1 f4; have HS5 := far_cell hX1 f5
          have HTF := Lib.hid (fun x' => HT.out (far w1 x') (HA1.out.below (below_far w1 x')) (HD1.out.below (below_far w1 x')))
          have HSF := Lib.hid (fun x' => HSX.out (far w1 x') (HA1.out.below (below_far w1 x')) (HD1.out.below (below_far w1 x')))
          go_wp2_with fail
          refine wp_region_far (by kernel_rfl) (by kernel_rfl) ?_
          repeat (any_goals (first | go_big_quiet_step ((first | (go_at_call 93; with_reducible exact call_far (HTF.out _)) | (go_at_call 77; with_reducible exact call_far (HSF.out _)))) | quiet_step ((first | (go_at_call 93; with_reducible exact call_far (HTF.out _)) | (go_at_call 77; with_reducible exact call_far (HSF.out _))))))
          refine wpQuiet_nil ?_; intro w2 hw2
          have hbw2 : Below w1.heap.size w1 w2 := by obtain ⟨u, rfl⟩ := hw2; exact below_far w1 u
          clear hw2
          go_wp2
          go_ret
          exact ⟨ret_bool HV2.out.symm, by rw [HBE.out]; exact HB1.out.trans (hbw2.mono (by omega))⟩
      · have hps := str_emp q1
        have HV2 := Lib.hid (HV.out.trans (by rw [decide_eq_false q1, Bool.false_and])); clear HV HST HEN HT q1
        go_enter Tryz.func62, Tryz.ntmps62
        go_wp2_with fail
        generalize hB : w.heap.size = B at *
        have HBE := Lib.hid hB; clear hB
        generalize (w.alloc (.cells #[.slice A l.length ca, .slice D zs.length cd, .int .i64 x] 36)).alloc (.cells #[.int .i64 h, .int .i64 a, .int .i64 k, .string p, .int .i64 g, .int .i64 d] 102) = W at *
        obtain ⟨h1, h2, h3, h4⟩ := H2.out
        have hBn := Box3.cells (show Box3 36 W B _ _ _ from h1)
        obtain ⟨b0, b1, b2⟩ := hBn
        obtain ⟨s0, s1, s2, s3, s4, s5⟩ := row6 h2
        have HB0 := Lib.hid h3
        have hW0 : B < W.heap.size := by omega
        have hW1 : B + 1 < W.heap.size := by omega
        clear h1 h2 h3
        refine (HI.out W HA.out HD.out).mono ?_; rintro e w1 ⟨rfl, hb1⟩
        have HB1 := Lib.hid (HB0.out.trans (hb1.mono (by omega)))
        have e0 := (hb1.cell (p := ⟨B, 0, none⟩) hW0).trans b0; have e1 := (hb1.cell (p := ⟨B, 1, none⟩) hW0).trans b1; have e2 := (hb1.cell (p := ⟨B, 2, none⟩) hW0).trans b2
        have f0 := (hb1.cell (p := ⟨B + 1, 0, none⟩) hW1).trans s0; have f1 := (hb1.cell (p := ⟨B + 1, 1, none⟩) hW1).trans s1; have f2 := (hb1.cell (p := ⟨B + 1, 2, none⟩) hW1).trans s2; have f3 := (hb1.cell (p := ⟨B + 1, 3, none⟩) hW1).trans s3; have f4 := (hb1.cell (p := ⟨B + 1, 4, none⟩) hW1).trans s4; have f5 := (hb1.cell (p := ⟨B + 1, 5, none⟩) hW1).trans s5
        have HA1 := Lib.hid (HA.out.below hb1); have HD1 := Lib.hid (HD.out.below hb1)
        have hX0 : B < w1.heap.size := by have := hb1.size; omega
        have hX1 : B + 1 < w1.heap.size := by have := hb1.size; omega
        clear b0 b1 b2 s0 s1 s2 s3 s4 s5 hb1 HA HD HB0 H2
        go_wp2_with fail
        refine (HH.out w1).mono ?_; rintro e w2 ⟨rfl, rfl⟩
        go_wp2_with fail
        refine (HTI.out w1).mono ?_; rintro e w2 ⟨rfl, rfl⟩
        have HF0 := far_cell hX0 e0; have HF1 := far_cell hX0 e1; have HF2 := far_cell hX0 e2; have HS1 := far_cell hX1 f1; have HS2 := far_cell hX1 f2; have HS3 := far_cell hX1 f3; have HS4 := far_cell hX1 f4; have HS5 := far_cell hX1 f5
        go_wp2_with fail
        refine wp_region_far (by kernel_rfl) (by kernel_rfl) ?_
        repeat (any_goals (first | go_big_quiet_step (fail) | quiet_step (fail)))
        refine wpQuiet_nil ?_; intro w2 hw2
        have hbw2 : Below w1.heap.size w1 w2 := by obtain ⟨u, rfl⟩ := hw2; exact below_far w1 u
        clear hw2
        go_wp2
        go_ret
        exact ⟨ret_bool HV2.out.symm, by rw [HBE.out]; exact HB1.out.trans (hbw2.mono (by omega))⟩
    by_cases k2 : k = 2
    · skip
      have t1 : (k == 1) = false := by simp [k2]
      have t4 : (k == 4) = false := by simp [k2]
      have t3 : (k == 3) = false := by simp [k2]
      have t2 : (k == 2) = true := by simp [k2]
      have HV := Lib.hid (HVK.out.trans (HKD.out k2)); clear HVK k2 HKH HKL HKD HKN HP HL HCI
      by_cases q1 : p = ⟨#[]⟩
      · subst q1
        cases hR : trB l zs x ⟨g, d⟩ with
        | false =>
          have HV2 := Lib.hid (HV.out.trans (by rw [hR, Bool.false_and, Bool.and_false])); clear HV HST HEN
          rw [show ronB l zs x g d = false from hR] at HT
          clear hR
          go_enter Tryz.func62, Tryz.ntmps62
          go_wp2_with fail
          generalize hB : w.heap.size = B at *
          have HBE := Lib.hid hB; clear hB
          generalize (w.alloc (.cells #[.slice A l.length ca, .slice D zs.length cd, .int .i64 x] 36)).alloc (.cells #[.int .i64 h, .int .i64 a, .int .i64 k, .string ⟨#[]⟩, .int .i64 g, .int .i64 d] 102) = W at *
          obtain ⟨h1, h2, h3, h4⟩ := H2.out
          have hBn := Box3.cells (show Box3 36 W B _ _ _ from h1)
          obtain ⟨b0, b1, b2⟩ := hBn
          obtain ⟨s0, s1, s2, s3, s4, s5⟩ := row6 h2
          have HB0 := Lib.hid h3
          have hW0 : B < W.heap.size := by omega
          have hW1 : B + 1 < W.heap.size := by omega
          clear h1 h2 h3
          refine (HI.out W HA.out HD.out).mono ?_; rintro e w1 ⟨rfl, hb1⟩
          have HB1 := Lib.hid (HB0.out.trans (hb1.mono (by omega)))
          have e0 := (hb1.cell (p := ⟨B, 0, none⟩) hW0).trans b0; have e1 := (hb1.cell (p := ⟨B, 1, none⟩) hW0).trans b1; have e2 := (hb1.cell (p := ⟨B, 2, none⟩) hW0).trans b2
          have f0 := (hb1.cell (p := ⟨B + 1, 0, none⟩) hW1).trans s0; have f1 := (hb1.cell (p := ⟨B + 1, 1, none⟩) hW1).trans s1; have f2 := (hb1.cell (p := ⟨B + 1, 2, none⟩) hW1).trans s2; have f3 := (hb1.cell (p := ⟨B + 1, 3, none⟩) hW1).trans s3; have f4 := (hb1.cell (p := ⟨B + 1, 4, none⟩) hW1).trans s4; have f5 := (hb1.cell (p := ⟨B + 1, 5, none⟩) hW1).trans s5
          have HA1 := Lib.hid (HA.out.below hb1); have HD1 := Lib.hid (HD.out.below hb1)
          have hX0 : B < w1.heap.size := by have := hb1.size; omega
          have hX1 : B + 1 < w1.heap.size := by have := hb1.size; omega
          clear b0 b1 b2 s0 s1 s2 s3 s4 s5 hb1 HA HD HB0 H2
          go_wp2_with fail
          refine (HH.out w1).mono ?_; rintro e w2 ⟨rfl, rfl⟩
          go_wp2_with fail
          refine (HTI.out w1).mono ?_; rintro e w2 ⟨rfl, rfl⟩
          have HF0 := far_cell hX0 e0; have HF1 := far_cell hX0 e1; have HF2 := far_cell hX0 e2; have HS1 := far_cell hX1 f1; have HS2 := far_cell hX1 f2; have HS3 := far_cell hX1 f3; have HS4 := far_cell hX1 f4; have HS5 := far_cell hX1 f5
          have HTF := Lib.hid (fun x' => HT.out (far w1 x') (HA1.out.below (below_far w1 x')) (HD1.out.below (below_far w1 x')))
          go_wp2_with fail
          refine wp_region_far (by kernel_rfl) (by kernel_rfl) ?_
          repeat (any_goals (first | go_big_quiet_step ((first | (go_at_call 93; with_reducible exact call_far (HTF.out _)))) | quiet_step ((first | (go_at_call 93; with_reducible exact call_far (HTF.out _))))))
          refine wpQuiet_nil ?_; intro w2 hw2
          have hbw2 : Below w1.heap.size w1 w2 := by obtain ⟨u, rfl⟩ := hw2; exact below_far w1 u
          clear hw2
          go_wp2
          go_ret
          exact ⟨ret_bool HV2.out.symm, by rw [HBE.out]; exact HB1.out.trans (hbw2.mono (by omega))⟩
        | true =>
          have HSX := Lib.hid (HEN.out hR)
          have HV2 := Lib.hid (HV.out.trans (by rw [hR, Bool.true_and, decide_eq_true (rfl : (⟨#[]⟩ : ByteArray) = ⟨#[]⟩), Bool.true_and])); clear HV HST HEN
          rw [show ronB l zs x g d = true from hR] at HT
          clear hR
          generalize trE l ⟨g, d⟩ = S at *
          go_enter Tryz.func62, Tryz.ntmps62
          go_wp2_with fail
          generalize hB : w.heap.size = B at *
          have HBE := Lib.hid hB; clear hB
          generalize (w.alloc (.cells #[.slice A l.length ca, .slice D zs.length cd, .int .i64 x] 36)).alloc (.cells #[.int .i64 h, .int .i64 a, .int .i64 k, .string ⟨#[]⟩, .int .i64 g, .int .i64 d] 102) = W at *
          obtain ⟨h1, h2, h3, h4⟩ := H2.out
          have hBn := Box3.cells (show Box3 36 W B _ _ _ from h1)
          obtain ⟨b0, b1, b2⟩ := hBn
          obtain ⟨s0, s1, s2, s3, s4, s5⟩ := row6 h2
          have HB0 := Lib.hid h3
          have hW0 : B < W.heap.size := by omega
          have hW1 : B + 1 < W.heap.size := by omega
          clear h1 h2 h3
          refine (HI.out W HA.out HD.out).mono ?_; rintro e w1 ⟨rfl, hb1⟩
          have HB1 := Lib.hid (HB0.out.trans (hb1.mono (by omega)))
          have e0 := (hb1.cell (p := ⟨B, 0, none⟩) hW0).trans b0; have e1 := (hb1.cell (p := ⟨B, 1, none⟩) hW0).trans b1; have e2 := (hb1.cell (p := ⟨B, 2, none⟩) hW0).trans b2
          have f0 := (hb1.cell (p := ⟨B + 1, 0, none⟩) hW1).trans s0; have f1 := (hb1.cell (p := ⟨B + 1, 1, none⟩) hW1).trans s1; have f2 := (hb1.cell (p := ⟨B + 1, 2, none⟩) hW1).trans s2; have f3 := (hb1.cell (p := ⟨B + 1, 3, none⟩) hW1).trans s3; have f4 := (hb1.cell (p := ⟨B + 1, 4, none⟩) hW1).trans s4; have f5 := (hb1.cell (p := ⟨B + 1, 5, none⟩) hW1).trans s5
          have HA1 := Lib.hid (HA.out.below hb1); have HD1 := Lib.hid (HD.out.below hb1)
          have hX0 : B < w1.heap.size := by have := hb1.size; omega
          have hX1 : B + 1 < w1.heap.size := by have := hb1.size; omega
          clear b0 b1 b2 s0 s1 s2 s3 s4 s5 hb1 HA HD HB0 H2
          go_wp2_with fail
          refine (HH.out w1).mono ?_; rintro e w2 ⟨rfl, rfl⟩
          go_wp2_with fail
          refine (HTI.out w1).mono ?_; rintro e w2 ⟨rfl, rfl⟩
          have HF0 := far_cell hX0 e0; have HF1 := far_cell hX0 e1; have HF2 := far_cell hX0 e2; have HS1 := far_cell hX1 f1; have HS2 := far_cell hX1 f2; have HS3 := far_cell hX1 f3; have HS4 := far_cell hX1 f4; have HS5 := far_cell hX1 f5
          have HTF := Lib.hid (fun x' => HT.out (far w1 x') (HA1.out.below (below_far w1 x')) (HD1.out.below (below_far w1 x')))
          have HSF := Lib.hid (fun x' => HSX.out (far w1 x') (HA1.out.below (below_far w1 x')) (HD1.out.below (below_far w1 x')))
          go_wp2_with fail
          refine wp_region_far (by kernel_rfl) (by kernel_rfl) ?_
          repeat (any_goals (first | go_big_quiet_step ((first | (go_at_call 93; with_reducible exact call_far (HTF.out _)) | (go_at_call 51; with_reducible exact call_far (HSF.out _)))) | quiet_step ((first | (go_at_call 93; with_reducible exact call_far (HTF.out _)) | (go_at_call 51; with_reducible exact call_far (HSF.out _))))))
          refine wpQuiet_nil ?_; intro w2 hw2
          have hbw2 : Below w1.heap.size w1 w2 := by obtain ⟨u, rfl⟩ := hw2; exact below_far w1 u
          clear hw2
          go_wp2
          go_ret
          exact ⟨ret_bool HV2.out.symm, by rw [HBE.out]; exact HB1.out.trans (hbw2.mono (by omega))⟩
      · have hps := str_emp q1
        have HV2 := Lib.hid (HV.out.trans (by rw [decide_eq_false q1, Bool.false_and])); clear HV HST HEN HT q1
        go_enter Tryz.func62, Tryz.ntmps62
        go_wp2_with fail
        generalize hB : w.heap.size = B at *
        have HBE := Lib.hid hB; clear hB
        generalize (w.alloc (.cells #[.slice A l.length ca, .slice D zs.length cd, .int .i64 x] 36)).alloc (.cells #[.int .i64 h, .int .i64 a, .int .i64 k, .string p, .int .i64 g, .int .i64 d] 102) = W at *
        obtain ⟨h1, h2, h3, h4⟩ := H2.out
        have hBn := Box3.cells (show Box3 36 W B _ _ _ from h1)
        obtain ⟨b0, b1, b2⟩ := hBn
        obtain ⟨s0, s1, s2, s3, s4, s5⟩ := row6 h2
        have HB0 := Lib.hid h3
        have hW0 : B < W.heap.size := by omega
        have hW1 : B + 1 < W.heap.size := by omega
        clear h1 h2 h3
        refine (HI.out W HA.out HD.out).mono ?_; rintro e w1 ⟨rfl, hb1⟩
        have HB1 := Lib.hid (HB0.out.trans (hb1.mono (by omega)))
        have e0 := (hb1.cell (p := ⟨B, 0, none⟩) hW0).trans b0; have e1 := (hb1.cell (p := ⟨B, 1, none⟩) hW0).trans b1; have e2 := (hb1.cell (p := ⟨B, 2, none⟩) hW0).trans b2
        have f0 := (hb1.cell (p := ⟨B + 1, 0, none⟩) hW1).trans s0; have f1 := (hb1.cell (p := ⟨B + 1, 1, none⟩) hW1).trans s1; have f2 := (hb1.cell (p := ⟨B + 1, 2, none⟩) hW1).trans s2; have f3 := (hb1.cell (p := ⟨B + 1, 3, none⟩) hW1).trans s3; have f4 := (hb1.cell (p := ⟨B + 1, 4, none⟩) hW1).trans s4; have f5 := (hb1.cell (p := ⟨B + 1, 5, none⟩) hW1).trans s5
        have HA1 := Lib.hid (HA.out.below hb1); have HD1 := Lib.hid (HD.out.below hb1)
        have hX0 : B < w1.heap.size := by have := hb1.size; omega
        have hX1 : B + 1 < w1.heap.size := by have := hb1.size; omega
        clear b0 b1 b2 s0 s1 s2 s3 s4 s5 hb1 HA HD HB0 H2
        go_wp2_with fail
        refine (HH.out w1).mono ?_; rintro e w2 ⟨rfl, rfl⟩
        go_wp2_with fail
        refine (HTI.out w1).mono ?_; rintro e w2 ⟨rfl, rfl⟩
        have HF0 := far_cell hX0 e0; have HF1 := far_cell hX0 e1; have HF2 := far_cell hX0 e2; have HS1 := far_cell hX1 f1; have HS2 := far_cell hX1 f2; have HS3 := far_cell hX1 f3; have HS4 := far_cell hX1 f4; have HS5 := far_cell hX1 f5
        go_wp2_with fail
        refine wp_region_far (by kernel_rfl) (by kernel_rfl) ?_
        repeat (any_goals (first | go_big_quiet_step (fail) | quiet_step (fail)))
        refine wpQuiet_nil ?_; intro w2 hw2
        have hbw2 : Below w1.heap.size w1 w2 := by obtain ⟨u, rfl⟩ := hw2; exact below_far w1 u
        clear hw2
        go_wp2
        go_ret
        exact ⟨ret_bool HV2.out.symm, by rw [HBE.out]; exact HB1.out.trans (hbw2.mono (by omega))⟩
    have t1 : (k == 1) = false := by simp [k1]
    have t2 : (k == 2) = false := by simp [k2]
    have t3 : (k == 3) = false := by simp [k3]
    have t4 : (k == 4) = false := by simp [k4]
    have HV := Lib.hid (HVK.out.trans (HKN.out k1 k2 k3 k4))
    clear HVK HKH HKL HKD HKN HT HST HEN HP HL HCI k1 k2 k3 k4
    go_enter Tryz.func62, Tryz.ntmps62
    go_wp2_with fail
    generalize hB : w.heap.size = B at *
    have HBE := Lib.hid hB; clear hB
    generalize (w.alloc (.cells #[.slice A l.length ca, .slice D zs.length cd, .int .i64 x] 36)).alloc (.cells #[.int .i64 h, .int .i64 a, .int .i64 k, .string p, .int .i64 g, .int .i64 d] 102) = W at *
    obtain ⟨h1, h2, h3, h4⟩ := H2.out
    have hBn := Box3.cells (show Box3 36 W B _ _ _ from h1)
    obtain ⟨b0, b1, b2⟩ := hBn
    obtain ⟨s0, s1, s2, s3, s4, s5⟩ := row6 h2
    have HB0 := Lib.hid h3
    have hW0 : B < W.heap.size := by omega
    have hW1 : B + 1 < W.heap.size := by omega
    clear h1 h2 h3
    refine (HI.out W HA.out HD.out).mono ?_; rintro e w1 ⟨rfl, hb1⟩
    have HB1 := Lib.hid (HB0.out.trans (hb1.mono (by omega)))
    have e0 := (hb1.cell (p := ⟨B, 0, none⟩) hW0).trans b0; have e1 := (hb1.cell (p := ⟨B, 1, none⟩) hW0).trans b1; have e2 := (hb1.cell (p := ⟨B, 2, none⟩) hW0).trans b2
    have f0 := (hb1.cell (p := ⟨B + 1, 0, none⟩) hW1).trans s0; have f1 := (hb1.cell (p := ⟨B + 1, 1, none⟩) hW1).trans s1; have f2 := (hb1.cell (p := ⟨B + 1, 2, none⟩) hW1).trans s2; have f3 := (hb1.cell (p := ⟨B + 1, 3, none⟩) hW1).trans s3; have f4 := (hb1.cell (p := ⟨B + 1, 4, none⟩) hW1).trans s4; have f5 := (hb1.cell (p := ⟨B + 1, 5, none⟩) hW1).trans s5
    have HA1 := Lib.hid (HA.out.below hb1); have HD1 := Lib.hid (HD.out.below hb1)
    have hX0 : B < w1.heap.size := by have := hb1.size; omega
    have hX1 : B + 1 < w1.heap.size := by have := hb1.size; omega
    clear b0 b1 b2 s0 s1 s2 s3 s4 s5 hb1 HA HD HB0 H2
    go_wp2_with fail
    refine (HH.out w1).mono ?_; rintro e w2 ⟨rfl, rfl⟩
    go_wp2_with fail
    refine (HTI.out w1).mono ?_; rintro e w2 ⟨rfl, rfl⟩
    go_wp2
    go_ret
    exact ⟨ret_bool HV.out.symm, by rw [HBE.out]; exact HB1.out⟩
end Go.Proofs.YtadcmngooobeiabGreat

/- Where scans are, the plain mathematics. Written by mk/spots.py. -/
namespace Go.Proofs.YtadcmngooobeiabGreat
open Go.RowKit
section
variable {l : List Lg} {zs : List Int} {x : Int} {r : Sc}
def placeSc (l : List Lg) (zs : List Int) (x : Int) (r : Sc) : ByteArray := if scB l zs x r = true then (if r.k = 3 then (lgAt l r.g).f else if r.k = 2 then (lgAt l r.g).t else r.p) else ⟨#[]⟩
theorem place_no (h : scB l zs x r = false) : placeSc l zs x r = ⟨#[]⟩ := by unfold placeSc; rw [if_neg (by rw [h]; decide)]
theorem place_load (h : scB l zs x r = true) (hk : r.k = 3) : placeSc l zs x r = (lgAt l r.g).f := by unfold placeSc; rw [if_pos h, if_pos hk]
theorem place_drop (h : scB l zs x r = true) (hk : r.k = 2) : placeSc l zs x r = (lgAt l r.g).t := by unfold placeSc; rw [if_pos h, if_neg (by omega), if_pos hk]
theorem place_here (h : scB l zs x r = true) (h3 : r.k ≠ 3) (h2 : r.k ≠ 2) : placeSc l zs x r = r.p := by unfold placeSc; rw [if_pos h, if_neg h3, if_neg h2]
/-- the spot behind a scan, the spot before it -/
def behP (l : List Lg) (zs : List Int) (x : Int) (r : Sc) : ByteArray := if scB l zs x r = true then (if r.k = 3 then (lgAt l r.g).t else placeSc l zs x r) else ⟨#[]⟩
def behA (l : List Lg) (zs : List Int) (x : Int) (r : Sc) : Int := if scB l zs x r = true then (if r.k = 3 then trE l ⟨r.g, r.d⟩ else r.a) else 0
def befP (l : List Lg) (zs : List Int) (x : Int) (r : Sc) : ByteArray := if scB l zs x r = true then (if r.k = 3 ∨ r.k = 2 then (lgAt l r.g).f else r.p) else ⟨#[]⟩
def befA (l : List Lg) (zs : List Int) (x : Int) (r : Sc) : Int := if scB l zs x r = true then (if r.k = 3 ∨ r.k = 2 then trS l ⟨r.g, r.d⟩ else r.a) else 0
theorem beh_no (h : scB l zs x r = false) : behP l zs x r = ⟨#[]⟩ ∧ behA l zs x r = 0 := by unfold behP behA; rw [if_neg (by rw [h]; decide), if_neg (by rw [h]; decide)]; exact ⟨rfl, rfl⟩
theorem beh_load (h : scB l zs x r = true) (hk : r.k = 3) : behP l zs x r = (lgAt l r.g).t ∧ behA l zs x r = trE l ⟨r.g, r.d⟩ := by unfold behP behA; rw [if_pos h, if_pos h, if_pos hk, if_pos hk]; exact ⟨rfl, rfl⟩
theorem beh_else (h : scB l zs x r = true) (hk : r.k ≠ 3) : behP l zs x r = placeSc l zs x r ∧ behA l zs x r = r.a := by unfold behP behA; rw [if_pos h, if_pos h, if_neg hk, if_neg hk]; exact ⟨rfl, rfl⟩
theorem bef_no (h : scB l zs x r = false) : befP l zs x r = ⟨#[]⟩ ∧ befA l zs x r = 0 := by unfold befP befA; rw [if_neg (by rw [h]; decide), if_neg (by rw [h]; decide)]; exact ⟨rfl, rfl⟩
theorem bef_trip (h : scB l zs x r = true) (hk : r.k = 3 ∨ r.k = 2) : befP l zs x r = (lgAt l r.g).f ∧ befA l zs x r = trS l ⟨r.g, r.d⟩ := by unfold befP befA; rw [if_pos h, if_pos h, if_pos hk, if_pos hk]; exact ⟨rfl, rfl⟩
theorem bef_else (h : scB l zs x r = true) (hk : ¬ (r.k = 3 ∨ r.k = 2)) : befP l zs x r = r.p ∧ befA l zs x r = r.a := by unfold befP befA; rw [if_pos h, if_pos h, if_neg hk, if_neg hk]; exact ⟨rfl, rfl⟩
end
end Go.Proofs.YtadcmngooobeiabGreat

/- The contracts of PlaceOf, both texts. Written by mk/spots.py. -/
namespace Go.Proofs.YtadcmngooobeiabGreat
open Go.RowKit
end Go.Proofs.YtadcmngooobeiabGreat

/- The contracts of SpotBehind, both texts. Written by mk/spots.py. -/
namespace Go.Proofs.YtadcmngooobeiabGreat
open Go.RowKit
end Go.Proofs.YtadcmngooobeiabGreat

/- The contracts of SpotBefore, both texts, and of isOfTrip. Written by mk/spots.py. -/
namespace Go.Proofs.YtadcmngooobeiabGreat
open Go.RowKit
end Go.Proofs.YtadcmngooobeiabGreat
