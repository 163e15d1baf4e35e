/- The walk of the law on CheapestService. -/
import Derived.Test.YtakpeakahofjlaaCheap2
import Derived.Test.YtakpeakahofjlaaToParcel
import Derived.Test.YtakpeakahofjlaaTo2
import Derived.Deep.RegionHeld3
namespace Go.Proofs.Ytakpeakahofjlaa.fnExactCheapestService
open Go.RowKit
set_option maxRecDepth 100000 in
set_option maxHeartbeats 4000000 in
theorem walk (A : Option Addr) (ca : Nat) (zs : List Zn) (w : World) (hz : RawK 2 zC w A zs) (hzm : (∀ z ∈ zs, z.1.size ≤ maxLen ∧ z.2.size ≤ maxLen) ∧ zs.length ≤ maxLen) (R : Option Addr) (cr : Nat) (rs : List Rt) (hr : RawK 4 rC w R rs) (hrm : rs.length ≤ maxLen)
    (a b : Int) (t f : ByteArray) (wt : Int) (S : Option Addr) (cs : Nat) (sd : List Int) (v : Int) (hs : IntsRaw w S sd) (hm : t.size ≤ maxLen ∧ f.size ≤ maxLen ∧ sd.length ≤ maxLen) :
    Calls Try.prog 16 #[.slice A zs.length ca, .slice R rs.length cr, .agg #[.int .i64 a, .int .i64 b, .string t, .string f, .int .i64 wt, .slice S sd.length cs, .int .i64 v]] w fun e w' => e = .returned (.bool true) ∧ Below w.heap.size w w' := by
  have hB0 := BoxP.new (T := 54) (a := a) (b := b) (t := t) (f := f) (wt := wt) (S := .slice S sd.length cs) (v := v) w
  have hb0 := (Below.refl w.heap.size w).alloc (Nat.le_refl _) (.cells #[.int .i64 a, .int .i64 b, .string t, .string f, .int .i64 wt, .slice S sd.length cs, .int .i64 v] 54)
  have HZ := Lib.hid hz; have HR := Lib.hid hr; have HS := Lib.hid hs; have HM := Lib.hid hm; have HZM := Lib.hid hzm; have HRM := Lib.hid hrm
  clear hz hr hs hm hzm hrm
  go_enter Try.func16, Try.ntmps16
  obtain ⟨c0, c1, c2, c3, c4, c5, c6⟩ := hB0.cells
  go_wp2_with fail
  clear c0 c1 c2 c3 c4 c5 c6
  have H0 := Lib.hid (And.intro hB0 hb0); clear hB0 hb0
  generalize hB : w.heap.size = B at *
  have HBE := Lib.hid hB; clear hB
  generalize w.alloc (.cells #[.int .i64 a, .int .i64 b, .string t, .string f, .int .i64 wt, .slice S sd.length cs, .int .i64 v] 54) = W at *
  refine (sz_zones A ca zs 1048576 W (HZ.out.below (by rw [HBE.out]; exact H0.out.2)) HZM.out.1 HZM.out.2 (by omega)).mono ?_; rintro e w1 ⟨⟨q, rfl, hq⟩, hb1⟩
  have P1 := Lib.hid (And.intro (H0.out.1.below hb1) (H0.out.2.trans (hb1.mono (Nat.le_of_lt H0.out.1.lt)))); clear hb1
  rcases hq with rfl | ⟨hq0, hq1, hzn⟩
  · go_wp2
    go_ret
    exact ⟨rfl, by rw [HBE.out]; exact P1.out.2⟩
  have hqn : ¬ q < 0 := by omega
  go_wp2_with fail
  refine (sz_rates R cr rs.length q w1 HRM.out (by omega)).mono ?_; rintro e w2 ⟨⟨q2, rfl, hq2⟩, hb2⟩
  have P2 := Lib.hid (And.intro (P1.out.1.below hb2) (P1.out.2.trans (hb2.mono (Nat.le_of_lt P1.out.1.lt)))); clear hb2
  rcases hq2 with rfl | ⟨hq20, hq21, hrn⟩
  · go_wp2
    go_ret
    exact ⟨rfl, by rw [HBE.out]; exact P2.out.2⟩
  have hqn2 : ¬ q2 < 0 := by omega
  obtain ⟨c0, c1, c2, c3, c4, c5, c6⟩ := P2.out.1.cells
  go_wp2_with fail
  clear c0 c1 c2 c3 c4 c5 c6
  refine (sz_parcel a b t f wt S sd.length cs v q2 w2 HM.out.1 HM.out.2.1 HM.out.2.2 (by omega)).mono ?_; rintro e w3 ⟨⟨q3, rfl, hq3⟩, hb3⟩
  have P3 := Lib.hid (And.intro (P2.out.1.below hb3) (P2.out.2.trans (hb3.mono (Nat.le_of_lt P2.out.1.lt)))); clear hb3
  rcases hq3 with rfl | ⟨hq30, hq31, _, _, hsn⟩
  · go_wp2
    go_ret
    exact ⟨rfl, by rw [HBE.out]; exact P3.out.2⟩
  have hqn3 : ¬ q3 < 0 := by omega
  have hzn' : zs.length ≤ 1048576 := by omega
  have hrn' : rs.length ≤ 1048576 := by omega
  have hsn' : sd.length ≤ 1048576 := by omega
  have HTZ := Lib.hid (fun W' (h : Below B w W') => to_zones2 A ca zs W' (HZ.out.below (by rw [HBE.out]; exact h)) hzn')
  have HTR := Lib.hid (fun W' (h : Below B w W') => to_rates2 R cr rs W' (HR.out.below (by rw [HBE.out]; exact h)) hrn')
  have HTP := Lib.hid (fun W' (h : Below B w W') => to_parcel a b t f wt S cs sd v W' (HS.out.below (by rw [HBE.out]; exact h)) hsn')
  obtain ⟨r0, hr0⟩ : ∃ x, x = (cheapOf zs rs b t f wt sd v).1 := ⟨_, rfl⟩
  obtain ⟨r1, hr1⟩ : ∃ x, x = (cheapOf zs rs b t f wt sd v).2 := ⟨_, rfl⟩
  have HSP : Hid (∀ (g1 g2 g3 : Nat) W', InK 2 zC W' (some ⟨g1, 0, none⟩) zs → InK 4 rC W' (some ⟨g2, 0, none⟩) rs → IntsIn W' (some ⟨g3, 0, none⟩) sd →
      Calls Try.prog 30 #[.slice (some ⟨g1, 0, none⟩) zs.length zs.length, .slice (some ⟨g2, 0, none⟩) rs.length rs.length, .agg #[.int .i64 a, .int .i64 b, .string t, .string f, .int .i64 wt, .slice (some ⟨g3, 0, none⟩) sd.length sd.length, .int .i64 v]] W' fun e w' => e = .returned (.tuple #[.int .i64 r0, .int .i64 r1]) ∧ Below W'.heap.size W' w') := Lib.hid (fun g1 g2 g3 W' h1 h2 h3 => by
    rw [hr0, hr1]; exact cheap_spec _ _ zs _ _ rs a b t f wt _ _ sd v W' h1 HZM.out.1 hzn' h2 hrn' HM.out.1 HM.out.2.1 h3 hsn')
  have HIP : Hid (∀ (g1 g2 g3 : Nat) W', InK 2 zC W' (some ⟨g1, 0, none⟩) zs → InK 4 rC W' (some ⟨g2, 0, none⟩) rs → IntsIn W' (some ⟨g3, 0, none⟩) sd →
      Calls Try.prog 29 #[.slice (some ⟨g1, 0, none⟩) zs.length zs.length, .slice (some ⟨g2, 0, none⟩) rs.length rs.length, .agg #[.int .i64 a, .int .i64 b, .string t, .string f, .int .i64 wt, .slice (some ⟨g3, 0, none⟩) sd.length sd.length, .int .i64 v]] W' fun e w' => e = .returned (.tuple #[.int .i64 r0, .int .i64 r1]) ∧ Below W'.heap.size W' w') := Lib.hid (fun g1 g2 g3 W' h1 h2 h3 => by
    rw [hr0, hr1]; exact cheap _ _ zs _ _ rs a b t f wt _ _ sd v W' h1 HZM.out.1 hzn' h2 hrn' HM.out.1 HM.out.2.1 h3 hsn')
  have n0 : (r0 != r0) = false := by simp
  have n1 : (r1 != r1) = false := by simp
  clear hr0 hr1 P1 P2 H0
  obtain ⟨c0, c1, c2, c3, c4, c5, c6⟩ := P3.out.1.cells
  go_wp2_with fail
  obtain ⟨WW, hWW⟩ : ∃ WW : World, WW = w3 := ⟨_, rfl⟩
  subst hWW
  go_region_held3 (fun w' => w'.cell? ⟨B, 0, none⟩ = some (.int .i64 a) ∧ w'.cell? ⟨B, 1, none⟩ = some (.int .i64 b) ∧ w'.cell? ⟨B, 2, none⟩ = some (.string t) ∧ w'.cell? ⟨B, 3, none⟩ = some (.string f) ∧ w'.cell? ⟨B, 4, none⟩ = some (.int .i64 wt) ∧ w'.cell? ⟨B, 5, none⟩ = some (.slice S sd.length cs) ∧ w'.cell? ⟨B, 6, none⟩ = some (.int .i64 v))
    (go_keep)
    (first
      | (go_at_call 49; refine (HTZ.out _ ?_).mono ?_; (focus (first | exact P3.out.2 | exact P3.out.2.drew)); (rintro e u1 ⟨g1, rfl, ho, hu⟩; (first | (have k1 : Below WW.heap.size WW u1 := below_undrew hu) | (have k1 : Below WW.heap.size WW u1 := hu)); have Z1 := Lib.hid ho; have P4 := Lib.hid (And.intro (P3.out.1.below k1) (P3.out.2.trans (k1.mono (Nat.le_of_lt P3.out.1.lt)))); clear c0 c1 c2 c3 c4 c5 c6 ho hu; obtain ⟨c0, c1, c2, c3, c4, c5, c6⟩ := P4.out.1.cells))
      | (go_at_call 54; refine (HTR.out _ ?_).mono ?_; (focus (exact P4.out.2)); (rintro e u2 ⟨g2, rfl, ho, hu⟩; have k2 : Below u1.heap.size u1 u2 := hu; have R2 := Lib.hid ho; have Z2 := Lib.hid (Z1.out.below k2); have P5 := Lib.hid (And.intro (P4.out.1.below k2) (P4.out.2.trans (k2.mono (Nat.le_of_lt P4.out.1.lt)))); clear c0 c1 c2 c3 c4 c5 c6 ho hu; obtain ⟨c0, c1, c2, c3, c4, c5, c6⟩ := P5.out.1.cells))
      | (go_at_call 42; refine (HTP.out _ ?_).mono ?_; (focus (exact P5.out.2)); (rintro e u3 ⟨g3, rfl, ho, hu⟩; have k3 : Below u2.heap.size u2 u3 := hu; have S3 := Lib.hid ho; have R3 := Lib.hid (R2.out.below k3); have Z3 := Lib.hid (Z2.out.below k3); have P6 := Lib.hid (And.intro (P5.out.1.below k3) (P5.out.2.trans (k3.mono (Nat.le_of_lt P5.out.1.lt)))); clear c0 c1 c2 c3 c4 c5 c6 ho hu; obtain ⟨c0, c1, c2, c3, c4, c5, c6⟩ := P6.out.1.cells))
      | (go_at_call 30; refine (HSP.out _ _ _ _ (Z3.out.ins zC_len).2 (R3.out.ins rC_len).2 S3.out.ins.2).mono ?_; (rintro e u4 ⟨rfl, hu⟩; have k4 : Below u3.heap.size u3 u4 := hu; have P7 := Lib.hid (And.intro (P6.out.1.below k4) (P6.out.2.trans (k4.mono (Nat.le_of_lt P6.out.1.lt)))); clear c0 c1 c2 c3 c4 c5 c6 hu; obtain ⟨c0, c1, c2, c3, c4, c5, c6⟩ := P7.out.1.cells)))
  all_goals
    clear c0 c1 c2 c3 c4 c5 c6
    go_wp2_with fail
    refine (HTZ.out _ P7.out.2).mono ?_; rintro e w8 ⟨h1, rfl, ho1, hb8⟩
    have X1 := Lib.hid ho1
    have P8 := Lib.hid (And.intro (P7.out.1.below hb8) (P7.out.2.trans (hb8.mono (Nat.le_of_lt P7.out.1.lt)))); clear hb8 ho1
    go_wp2_with fail
    refine (HTR.out _ P8.out.2).mono ?_; rintro e w9 ⟨h2, rfl, ho2, hb9⟩
    have X2 := Lib.hid ho2
    have X12 := Lib.hid (X1.out.below hb9)
    have P9 := Lib.hid (And.intro (P8.out.1.below hb9) (P8.out.2.trans (hb9.mono (Nat.le_of_lt P8.out.1.lt)))); clear hb9 ho2
    obtain ⟨c0, c1, c2, c3, c4, c5, c6⟩ := P9.out.1.cells
    go_wp2_with fail
    clear c0 c1 c2 c3 c4 c5 c6
    refine (HTP.out _ P9.out.2).mono ?_; rintro e w10 ⟨h3, rfl, ho3, hb10⟩
    have hX := BoxP.new (T := 42) (a := a) (b := b) (t := t) (f := f) (wt := wt) (S := .slice (some ⟨h3, 0, none⟩) sd.length sd.length) (v := v) w10
    have hbx := (Below.refl w10.heap.size w10).alloc (Nat.le_refl _) (.cells #[.int .i64 a, .int .i64 b, .string t, .string f, .int .i64 wt, .slice (some ⟨h3, 0, none⟩) sd.length sd.length, .int .i64 v] 42)
    have Y10 := Lib.hid (And.intro ((X12.out.below hb10).below hbx) (And.intro ((X2.out.below hb10).below hbx) (And.intro (ho3.below hbx) hX)))
    have P10 := Lib.hid (And.intro (P9.out.1.below hb10) (P9.out.2.trans (hb10.mono (Nat.le_of_lt P9.out.1.lt)))); clear hb10 ho3
    have P11 := Lib.hid (And.intro (P10.out.1.below hbx) (P10.out.2.trans (hbx.mono (Nat.le_of_lt P10.out.1.lt)))); clear hbx hX
    obtain ⟨x0, x1, x2, x3, x4, x5, x6⟩ := Y10.out.2.2.2.cells
    have hxl := P10.out.1.lt
    go_wp2_with fail
    clear x0 x1 x2 x3 x4 x5 x6
    generalize hX : w10.heap.size = X at *
    generalize w10.alloc (.cells #[.int .i64 a, .int .i64 b, .string t, .string f, .int .i64 wt, .slice (some ⟨h3, 0, none⟩) sd.length sd.length, .int .i64 v] 42) = w11 at *
    clear hX
    refine (HIP.out _ _ _ _ (Y10.out.1.ins zC_len).2 (Y10.out.2.1.ins rC_len).2 Y10.out.2.2.1.ins.2).mono ?_; rintro e w12 ⟨rfl, hb12⟩
    have Y12 := Lib.hid (And.intro (Y10.out.1.below hb12) (And.intro (Y10.out.2.1.below hb12) (And.intro (Y10.out.2.2.1.below hb12) (Y10.out.2.2.2.below hb12))))
    have P12 := Lib.hid (And.intro (P11.out.1.below hb12) (P11.out.2.trans (hb12.mono (Nat.le_of_lt P11.out.1.lt)))); clear hb12
    clear P3 P4 P5 P6 P7 P8 P9 P10 P11 Z1 Z2 Z3 R2 R3 S3 X1 X2 X12 Y10 k1 k2 k3 k4
    go_wp2_with fail
    refine (HTZ.out _ P12.out.2).mono ?_; rintro e w13 ⟨j1, rfl, ho1, hb13⟩
    have Y13 := Lib.hid (And.intro (Y12.out.1.below hb13) (And.intro (Y12.out.2.1.below hb13) (And.intro (Y12.out.2.2.1.below hb13) (Y12.out.2.2.2.below hb13))))
    have P13 := Lib.hid (And.intro (P12.out.1.below hb13) (P12.out.2.trans (hb13.mono (Nat.le_of_lt P12.out.1.lt)))); clear hb13
    have HO := Lib.hid ho1; clear ho1
    go_wp2_with fail
    refine (eq_zones _ _ _ _ zs w13 (Y13.out.1.ins zC_len).2 (HO.out.ins zC_len).2 hzn').mono ?_; rintro e w14 ⟨rfl, hb14⟩
    have Y14 := Lib.hid (And.intro (Y13.out.2.1.below hb14) (And.intro (Y13.out.2.2.1.below hb14) (Y13.out.2.2.2.below hb14)))
    have P14 := Lib.hid (And.intro (P13.out.1.below hb14) (P13.out.2.trans (hb14.mono (Nat.le_of_lt P13.out.1.lt)))); clear hb14 HO Y12 Y13
    go_wp2_with fail
    refine (HTR.out _ P14.out.2).mono ?_; rintro e w15 ⟨j2, rfl, ho2, hb15⟩
    have Y15 := Lib.hid (And.intro (Y14.out.1.below hb15) (And.intro (Y14.out.2.1.below hb15) (Y14.out.2.2.below hb15)))
    have P15 := Lib.hid (And.intro (P14.out.1.below hb15) (P14.out.2.trans (hb15.mono (Nat.le_of_lt P14.out.1.lt)))); clear hb15
    have HO := Lib.hid ho2; clear ho2
    go_wp2_with fail
    refine (eq_rates _ _ _ _ rs w15 (Y15.out.1.ins rC_len).2 (HO.out.ins rC_len).2 hrn').mono ?_; rintro e w16 ⟨rfl, hb16⟩
    have Y16 := Lib.hid (And.intro (Y15.out.2.1.below hb16) (Y15.out.2.2.below hb16))
    have P16 := Lib.hid (And.intro (P15.out.1.below hb16) (P15.out.2.trans (hb16.mono (Nat.le_of_lt P15.out.1.lt)))); clear hb16 HO Y14 Y15 P12 P13 P14 P15
    go_wp2_with fail
    obtain ⟨c0, c1, c2, c3, c4, c5, c6⟩ := P16.out.1.cells
    obtain ⟨x0, x1, x2, x3, x4, x5, x6⟩ := Y16.out.2.cells
    have hBl := P16.out.1.lt
    obtain ⟨V, hV⟩ : ∃ V : World, V = w16 := ⟨_, rfl⟩
    subst hV
    go_region_held3 (fun w' => w'.cell? ⟨B, 0, none⟩ = some (.int .i64 a) ∧ w'.cell? ⟨B, 1, none⟩ = some (.int .i64 b) ∧ w'.cell? ⟨B, 2, none⟩ = some (.string t) ∧ w'.cell? ⟨B, 3, none⟩ = some (.string f) ∧ w'.cell? ⟨B, 4, none⟩ = some (.int .i64 wt) ∧ w'.cell? ⟨B, 5, none⟩ = some (.slice S sd.length cs) ∧ w'.cell? ⟨B, 6, none⟩ = some (.int .i64 v) ∧ w'.cell? ⟨X, 0, none⟩ = some (.int .i64 a) ∧ w'.cell? ⟨X, 1, none⟩ = some (.int .i64 b) ∧ w'.cell? ⟨X, 2, none⟩ = some (.string t) ∧ w'.cell? ⟨X, 3, none⟩ = some (.string f) ∧ w'.cell? ⟨X, 4, none⟩ = some (.int .i64 wt) ∧ w'.cell? ⟨X, 5, none⟩ = some (.slice (some ⟨h3, 0, none⟩) sd.length sd.length) ∧ w'.cell? ⟨X, 6, none⟩ = some (.int .i64 v))
      (go_keep)
      (first
        | (go_at_call 42; refine (HTP.out _ ?_).mono ?_; (focus (first | exact P16.out.2 | exact P16.out.2.drew)); (rintro e u ⟨g7, rfl, ho7, hu⟩; (first | (have hb7 : Below V.heap.size V u := below_undrew hu) | (have hb7 : Below V.heap.size V u := hu)); have HO7 := Lib.hid ho7; have Q7 := Lib.hid (And.intro (P16.out.1.below hb7) (And.intro (Y16.out.2.below hb7) (Y16.out.1.below hb7))); clear ho7 hu c0 c1 c2 c3 c4 c5 c6 x0 x1 x2 x3 x4 x5 x6; obtain ⟨c0, c1, c2, c3, c4, c5, c6⟩ := Q7.out.1.cells; obtain ⟨x0, x1, x2, x3, x4, x5, x6⟩ := Q7.out.2.1.cells))
        | (go_at_call 44; refine (eq_parcel a b t f wt _ _ _ _ sd v _ Q7.out.2.2.ins.2 HO7.out.ins.2 hsn').mono ?_; (rintro e u2 ⟨rfl, hu⟩; have hb8 : Below u.heap.size u u2 := hu; have hs7 := hb7.size; have Q8 := Lib.hid (And.intro (Q7.out.1.below hb8) (Q7.out.2.1.below hb8)); clear c0 c1 c2 c3 c4 c5 c6 x0 x1 x2 x3 x4 x5 x6; obtain ⟨c0, c1, c2, c3, c4, c5, c6⟩ := Q8.out.1.cells; obtain ⟨x0, x1, x2, x3, x4, x5, x6⟩ := Q8.out.2.cells; clear hu)))
    all_goals
      go_wp2
      go_ret
      exact ⟨rfl, by rw [HBE.out]; exact P16.out.2.trans ((hb7.trans (hb8.mono hs7)).mono (by omega))⟩
end Go.Proofs.Ytakpeakahofjlaa.fnExactCheapestService
