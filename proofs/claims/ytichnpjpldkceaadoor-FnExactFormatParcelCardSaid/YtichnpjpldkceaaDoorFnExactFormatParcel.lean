/- The walk of the law on FormatParcel. Made by mk/fpar.py out of the walk on IsParcel. -/
import Derived.Test.YtichnpjpldkceaaDoorFPar
import Derived.Test.YtichnpjpldkceaaDoorToParcel
import Derived.Deep.RegionHeld3
namespace Go.Proofs.YtichnpjpldkceaaDoor.fnExactFormatParcel
open Go.RowKit
set_option maxRecDepth 100000 in
set_option maxHeartbeats 2000000 in
theorem walk (a b : Int) (t f : ByteArray) (wt : Int) (A : Option Addr) (cap : Nat) (zs : List Int) (v : Int) (w : World) (hr : IntsRaw w A zs) (hm : t.size ≤ maxLen ∧ f.size ≤ maxLen ∧ zs.length ≤ maxLen) (hp : PowIs w) :
    Calls Tryd.prog 3 #[.agg #[.int .i64 a, .int .i64 b, .string t, .string f, .int .i64 wt, .slice A zs.length cap, .int .i64 v]] w fun e w' => e = .returned (.bool true) ∧ Below w.heap.size w w' := by
  have hB0 := BoxP.new (T := 26) (a := a) (b := b) (t := t) (f := f) (wt := wt) (S := .slice A zs.length cap) (v := v) w
  have hb0 := (Below.refl w.heap.size w).alloc (Nat.le_refl _) (.cells #[.int .i64 a, .int .i64 b, .string t, .string f, .int .i64 wt, .slice A zs.length cap, .int .i64 v] 26)
  have HR := Lib.hid hr; clear hr
  have HT := Lib.hid (fun W (h : Below w.heap.size w W) => hp.below h); clear hp
  have HS := Lib.hid hm; clear hm
  go_enter Tryd.func3, Tryd.ntmps3
  obtain ⟨c0, c1, c2, c3, c4, c5, c6⟩ := hB0.cells
  go_wp2_with fail
  clear c0 c1 c2 c3 c4 c5 c6
  have H0 := Lib.hid (And.intro hB0 hb0); clear hB0 hb0
  generalize hB : w.heap.size = B at *
  have HBE := Lib.hid hB; clear hB
  generalize w.alloc (.cells #[.int .i64 a, .int .i64 b, .string t, .string f, .int .i64 wt, .slice A zs.length cap, .int .i64 v] 26) = W at *
  refine (sz_parcel a b t f wt A zs.length cap v 1048576 W HS.out.1 HS.out.2.1 HS.out.2.2 (by omega)).mono ?_; rintro e w1 ⟨⟨r, rfl, hr⟩, hb1⟩
  have Q1 := Lib.hid (And.intro (H0.out.1.below hb1) (H0.out.2.trans (hb1.mono (Nat.le_of_lt H0.out.1.lt)))); clear hb1
  rcases hr with rfl | ⟨hr0, hr1, htn, _, hzn⟩
  · go_wp2
    go_ret
    exact ⟨rfl, by rw [HBE.out]; exact Q1.out.2⟩
  have hrn : ¬ r < 0 := by omega
  have hzn' : zs.length ≤ 1048576 := by omega
  have htn' : t.size ≤ 1048576 := by omega
  clear htn
  obtain ⟨c0, c1, c2, c3, c4, c5, c6⟩ := Q1.out.1.cells
  go_wp2_with fail
  clear c0 c1 c2 c3 c4 c5 c6
  refine (to_parcel a b t f wt A cap zs v w1 (HR.out.below (by rw [HBE.out]; exact Q1.out.2)) hzn').mono ?_; rintro e w2 ⟨g2, rfl, ho2, hb2⟩
  have Q2 := Lib.hid (And.intro (Q1.out.1.below hb2) (Q1.out.2.trans (hb2.mono (Nat.le_of_lt Q1.out.1.lt)))); clear hb2
  have HO2 := Lib.hid ho2; clear ho2
  go_wp2_with fail
  refine (fpar_spec a b t f wt _ _ _ zs v w2 HO2.out.ins.2 rfl hzn' htn' HS.out.2.1).mono ?_; rintro e w3 ⟨rfl, hb3⟩
  have Q3 := Lib.hid (And.intro (Q2.out.1.below hb3) (Q2.out.2.trans (hb3.mono (Nat.le_of_lt Q2.out.1.lt)))); clear hb3
  clear HO2
  obtain ⟨c0, c1, c2, c3, c4, c5, c6⟩ := Q3.out.1.cells
  go_wp2_with fail
  clear c0 c1 c2 c3 c4 c5 c6
  refine (to_parcel a b t f wt A cap zs v w3 (HR.out.below (by rw [HBE.out]; exact Q3.out.2)) hzn').mono ?_; rintro e w4 ⟨g4, rfl, ho4, hb4⟩
  have Q4 := Lib.hid (And.intro (Q3.out.1.below hb4) (Q3.out.2.trans (hb4.mono (Nat.le_of_lt Q3.out.1.lt)))); clear hb4
  have hX := BoxP.new (T := 31) (a := a) (b := b) (t := t) (f := f) (wt := wt) (S := .slice (some ⟨g4, 0, none⟩) zs.length zs.length) (v := v) w4
  have hbx := (Below.refl w4.heap.size w4).alloc (Nat.le_refl _) (.cells #[.int .i64 a, .int .i64 b, .string t, .string f, .int .i64 wt, .slice (some ⟨g4, 0, none⟩) zs.length zs.length, .int .i64 v] 31)
  have Q5 := Lib.hid (And.intro (Q4.out.1.below hbx) (And.intro (Q4.out.2.trans (hbx.mono (Nat.le_of_lt Q4.out.1.lt))) (And.intro hX (ho4.below hbx)))); clear hbx hX ho4
  obtain ⟨x0, x1, x2, x3, x4, x5, x6⟩ := Q5.out.2.2.1.cells
  go_wp2_with fail
  clear x0 x1 x2 x3 x4 x5 x6
  have hx4 := Q4.out.1.lt
  generalize hX : w4.heap.size = X at *
  generalize w4.alloc (.cells #[.int .i64 a, .int .i64 b, .string t, .string f, .int .i64 wt, .slice (some ⟨g4, 0, none⟩) zs.length zs.length, .int .i64 v] 31) = w5 at *
  clear hX
  refine (fpar_impl a b t f wt _ _ _ zs v w5 Q5.out.2.2.2.ins.2 rfl hzn' htn' HS.out.2.1 (HT.out _ Q5.out.2.1)).mono ?_; rintro e w6 ⟨rfl, hb6⟩
  have Q6 := Lib.hid (And.intro (Q5.out.1.below hb6) (And.intro (Q5.out.2.1.trans (hb6.mono (Nat.le_of_lt Q5.out.1.lt))) (And.intro (Q5.out.2.2.1.below hb6) (Q5.out.2.2.2.below hb6)))); clear hb6
  have hq : ((fmtPar a b t f wt zs v).toList != (fmtPar a b t f wt zs v).toList) = false := by simp
  generalize fmtPar a b t f wt zs v = V at *
  clear Q1 Q2 Q3 Q4 Q5 H0
  go_wp2_with fail
  obtain ⟨c0, c1, c2, c3, c4, c5, c6⟩ := Q6.out.1.cells
  obtain ⟨x0, x1, x2, x3, x4, x5, x6⟩ := Q6.out.2.2.1.cells
  have hBl := Q6.out.1.lt
  have hXl := Q6.out.2.2.1.lt
  have HTP := Lib.hid (fun W' (h : Below w6.heap.size w6 W') => to_parcel a b t f wt A cap zs v W' ((HR.out.below (by rw [HBE.out]; exact Q6.out.2.1)).below h) hzn')
  obtain ⟨WW, hWW⟩ : ∃ WW : World, WW = w6 := ⟨_, rfl⟩
  subst hWW
  go_region_held3 (fun w' => w'.cell? ⟨B, 0, none⟩ = some (.int .i64 a) ∧ w'.cell? ⟨B, 1, none⟩ = some (.int .i64 b) ∧ w'.cell? ⟨B, 2, none⟩ = some (.string t) ∧ w'.cell? ⟨B, 3, none⟩ = some (.string f) ∧ w'.cell? ⟨B, 4, none⟩ = some (.int .i64 wt) ∧ w'.cell? ⟨B, 5, none⟩ = some (.slice A zs.length cap) ∧ w'.cell? ⟨B, 6, none⟩ = some (.int .i64 v) ∧ w'.cell? ⟨X, 0, none⟩ = some (.int .i64 a) ∧ w'.cell? ⟨X, 1, none⟩ = some (.int .i64 b) ∧ w'.cell? ⟨X, 2, none⟩ = some (.string t) ∧ w'.cell? ⟨X, 3, none⟩ = some (.string f) ∧ w'.cell? ⟨X, 4, none⟩ = some (.int .i64 wt) ∧ w'.cell? ⟨X, 5, none⟩ = some (.slice (some ⟨g4, 0, none⟩) zs.length zs.length) ∧ w'.cell? ⟨X, 6, none⟩ = some (.int .i64 v))
    (go_keep)
    (first
      | (go_at_call 10; refine (HTP.out _ ?_).mono ?_; (focus (first | exact Below.refl _ _ | exact (Below.refl _ _).drew)); (rintro e u ⟨g7, rfl, ho7, hu⟩; (first | (have hb7 : Below WW.heap.size WW u := below_undrew hu) | (have hb7 : Below WW.heap.size WW u := hu)); have HO7 := Lib.hid ho7; have Q7 := Lib.hid (And.intro (Q6.out.1.below hb7) (And.intro (Q6.out.2.2.1.below hb7) (Q6.out.2.2.2.below hb7))); obtain ⟨d0, d1, d2, d3, d4, d5, d6⟩ := Q7.out.1.cells; obtain ⟨y0, y1, y2, y3, y4, y5, y6⟩ := Q7.out.2.1.cells; clear ho7 hu c0 c1 c2 c3 c4 c5 c6 x0 x1 x2 x3 x4 x5 x6))
      | (go_at_call 12; refine (eq_parcel a b t f wt _ _ _ _ zs v _ Q7.out.2.2.ins.2 HO7.out.ins.2 hzn').mono ?_; (rintro e u2 ⟨rfl, hu⟩; have hb8 : Below u.heap.size u u2 := hu; have hs7 := hb7.size; have Q8 := Lib.hid (And.intro (Q7.out.1.below hb8) (Q7.out.2.1.below hb8)); clear d0 d1 d2 d3 d4 d5 d6 y0 y1 y2 y3 y4 y5 y6; obtain ⟨d0, d1, d2, d3, d4, d5, d6⟩ := Q8.out.1.cells; obtain ⟨y0, y1, y2, y3, y4, y5, y6⟩ := Q8.out.2.cells; clear hu)))
  all_goals
    go_wp2
    go_ret
    exact ⟨rfl, by rw [HBE.out]; exact Q6.out.2.1.trans ((hb7.trans (hb8.mono hs7)).mono (by omega))⟩
end Go.Proofs.YtichnpjpldkceaaDoor.fnExactFormatParcel
