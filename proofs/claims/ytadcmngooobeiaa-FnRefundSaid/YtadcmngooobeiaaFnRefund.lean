/- The walk of FnRefund. Written by hand. -/
import Derived.Test.YtadcmngooobeiaaDrawR
import Derived.Test.YtadcmngooobeiaaRefM
import Derived.Test.YtadcmngooobeiaaAt
namespace Go.Proofs.Ytadcmngooobeiaa
open Go.RowKit
set_option maxRecDepth 100000 in
set_option maxHeartbeats 2000000 in
theorem refd_draw (A : Option Addr) (n cap : Nat) (w : World) (hn : n ≤ 4096) (hb : BytesIn w A n) :
    Calls Try.prog 55 #[.slice A n cap] w fun e w' => (∃ (c u t : Int) (P m : Nat) (ps : List Int), e = .returned (.tuple #[.int .i64 c, .int .i64 u, .int .i64 t, .slice (some ⟨P, 0, none⟩) m m]) ∧ i64B t ∧ IntsIn w' (some ⟨P, 0, none⟩) ps ∧ ps.length = m ∧ m ≤ 6) ∧ Below w.heap.size w w' := by
  have HB := Lib.hid hb; clear hb
  go_enter Try.func55, Try.ntmps55
  go_wp2_with fail
  refine (new_any A n cap w hn HB.out).mono ?_; rintro e w1 ⟨g, rfl, hc1, hg, hb1⟩
  have H1 := Lib.hid hc1; clear hc1
  have hz1 := hb1.size
  go_wp2_with fail
  refine (below_any g 300 w1 (by omega) H1.out).mono ?_; rintro e w2 ⟨⟨x, hx0, hx1, _, rfl⟩, hc2, ho2⟩
  have hx3 := hx1 (by omega)
  clear hx1
  have H2 := Lib.hid hc2; clear hc2 H1
  have HO2 := Lib.hid ho2; clear ho2
  go_wp2_with fail
  refine (int_new g 8 w2 _ _ H2.out rfl (by omega) (by omega) (by decide)).mono ?_; rintro e w3 ⟨⟨y, hy, rfl⟩, hc3, ho3⟩
  have H3 := Lib.hid hc3; clear hc3 H2
  replace HO2 := Lib.hid (only_trans HO2.out ho3); clear ho3
  have HY := Lib.hid hy; clear hy
  go_wp2_with fail
  obtain ⟨E0, hE0⟩ : ∃ E0 : Int, E0 = wrap64 (60 * x + y) := ⟨_, rfl⟩
  have HE0 := Lib.hid (show i64B E0 by rw [hE0]; unfold i64B; exact wrap_bd _)
  rw [← hE0]
  clear hE0
  refine (once_any g 6 w3 (by omega) H3.out).mono ?_; rintro e w4 ⟨⟨t', rfl⟩, hc4, ho4⟩
  have H4 := Lib.hid hc4; clear hc4 H3
  replace HO2 := Lib.hid (only_trans HO2.out ho4); clear ho4
  cases t' with
  | false =>
    go_wp2_with fail
    refine (int_new g 7 w4 _ _ H4.out rfl (by omega) (by omega) (by decide)).mono ?_; rintro e w6 ⟨⟨c, hcc, rfl⟩, hc6, ho6⟩
    have H6 := Lib.hid hc6; clear hc6 hcc H4
    replace HO2 := Lib.hid (only_trans HO2.out ho6); clear ho6
    go_wp2_with fail
    refine (perc_draw g w6 H6.out).mono ?_; rintro e w7 ⟨⟨P, m, ps, rfl, _, _, hps, hpl, hpm⟩, hc7, ho7⟩
    have HP := Lib.hid (And.intro hps (And.intro hpl hpm)); clear hps hpl hpm hc7 H6
    have HW := Lib.hid (hb1.trans (only_below (only_trans HO2.out ho7) hz1 hg)); clear ho7 HO2
    go_wp2
    exact bodyPost_ret (v := .tuple #[.int .i64 c, .int .i64 (60 * x), .int .i64 E0, .slice (some ⟨P, 0, none⟩) m m]) (by simp [results, Try.results55, go_sem]) rfl ⟨⟨_, _, _, P, m, ps, rfl, HE0.out, HP.out.1, HP.out.2.1, HP.out.2.2⟩, HW.out⟩
  | true =>
    go_wp2_with fail
    refine (odd_draw g w4 H4.out).mono ?_; rintro e w5 ⟨⟨E1, hE1, rfl⟩, hc5, ho5⟩
    have H5 := Lib.hid hc5; clear hc5 H4
    have HE1 := Lib.hid hE1; clear hE1
    replace HO2 := Lib.hid (only_trans HO2.out ho5); clear ho5
    go_wp2_with fail
    refine (int_new g 7 w5 _ _ H5.out rfl (by omega) (by omega) (by decide)).mono ?_; rintro e w6 ⟨⟨c, hcc, rfl⟩, hc6, ho6⟩
    have H6 := Lib.hid hc6; clear hc6 hcc H5
    replace HO2 := Lib.hid (only_trans HO2.out ho6); clear ho6
    go_wp2_with fail
    refine (perc_draw g w6 H6.out).mono ?_; rintro e w7 ⟨⟨P, m, ps, rfl, _, _, hps, hpl, hpm⟩, hc7, ho7⟩
    have HP := Lib.hid (And.intro hps (And.intro hpl hpm)); clear hps hpl hpm hc7 H6
    have HW := Lib.hid (hb1.trans (only_below (only_trans HO2.out ho7) hz1 hg)); clear ho7 HO2
    go_wp2
    exact bodyPost_ret (v := .tuple #[.int .i64 c, .int .i64 (60 * x), .int .i64 E1, .slice (some ⟨P, 0, none⟩) m m]) (by simp [results, Try.results55, go_sem]) rfl ⟨⟨_, _, _, P, m, ps, rfl, HE1.out, HP.out.1, HP.out.2.1, HP.out.2.2⟩, HW.out⟩
end Go.Proofs.Ytadcmngooobeiaa
namespace Go.Proofs.Ytadcmngooobeiaa.fnRefund
open Go.RowKit
set_option maxRecDepth 100000 in
set_option maxHeartbeats 4000000 in
theorem walk (A : Option Addr) (n cap : Nat) (w : World) (hr : BytesIn w A n) (_hm : n ≤ maxLen) :
    Calls Try.prog 16 #[.slice A n cap] w fun e w' => e = .returned (.bool true) ∧ Below w.heap.size w w' := by
  clear _hm
  have HR := Lib.hid hr; clear hr
  by_cases hbig : 4096 < n
  · have hB : bigB n = true := by simp [bigB, hbig]
    go_enter Try.func16, Try.ntmps16
    go_wp2_with fail
    refine (big_any _ _ _ _).mono ?_; rintro e w1 ⟨rfl, rfl⟩
    go_wp2
    go_ret
    exact ⟨rfl, Below.refl _ _⟩
  have hB : bigB n = false := by simp [bigB]; omega
  obtain ⟨v, hv0, hv1, HAT'⟩ := at_val A n cap w HR.out (by omega) 1 (by omega)
  have HAT := Lib.hid HAT'; clear HAT'
  go_enter Try.func16, Try.ntmps16
  go_wp2_with fail
  refine (big_any _ _ _ _).mono ?_; rintro e w1 ⟨rfl, rfl⟩
  go_wp2_with fail
  refine (refd_draw A n cap _ (by omega) HR.out).mono ?_
  rintro e w1 ⟨⟨c, u, t, P, m, ps, rfl, ht, hps, rfl, hm6⟩, hb1⟩
  have HP := Lib.hid hps; clear hps
  have HB := Lib.hid hb1; clear hb1
  have hpl : ps.length ≤ 1048576 := by omega
  clear hm6
  have HTB := Lib.hid ht; clear ht
  have HRI := Lib.hid (fun t' W (h : IntsIn W (some ⟨P, 0, none⟩) ps) => refd_impl c u t' (some ⟨P, 0, none⟩) ps.length ps W h hpl)
  have HRS := Lib.hid (fun W (h : IntsIn W (some ⟨P, 0, none⟩) ps) => refd_spec c u t (some ⟨P, 0, none⟩) ps.length ps W h hpl)
  have HM0 := Lib.hid (ref_bd c u t ps)
  have HMP := Lib.hid (fun h => ref_pos (c := c) (u := u) (e := t) (l := ps) h)
  have HMM := Lib.hid (fun (h1 : t ≤ 150000) (h2 : 0 ≤ t) => show refB c u t ps ≤ refB c u (wrap64 (t + 10 * v)) ps by
    rw [wrap_id (x := t + 10 * v) (by omega)]; exact ref_mono h1 ⟨hv0, hv1⟩)
  have HI1 := Lib.hid (HRI.out t)
  have HI2 := Lib.hid (HRI.out (wrap64 (t + 10 * v)))
  clear HRI
  generalize refB c u (wrap64 (t + 10 * v)) ps = R2 at *
  generalize refB c u t ps = R1 at *
  have hq : (R1 != R1) = false := by simp
  go_wp2_with fail
  refine (HI1.out _ HP.out).mono ?_; rintro e w2 ⟨rfl, hb⟩
  replace HP := Lib.hid (HP.out.below hb); replace HB := Lib.hid (HB.out.trans (hb.mono HB.out.size)); clear hb
  go_wp2_with fail
  refine (HRS.out _ HP.out).mono ?_; rintro e w3 ⟨rfl, hb⟩
  replace HP := Lib.hid (HP.out.below hb); replace HB := Lib.hid (HB.out.trans (hb.mono HB.out.size)); clear hb
  go_wp2_with fail
  refine (HAT.out _ HB.out).mono ?_; rintro e w3' ⟨rfl, hw⟩; subst hw
  go_wp2_with fail
  refine (HI2.out _ HP.out).mono ?_; rintro e w4 ⟨rfl, hb⟩
  replace HB := Lib.hid (HB.out.trans (hb.mono HB.out.size)); clear hb HP
  have hm0 := HM0.out
  have n0 : decide (R1 < 0) = false := decide_eq_false (by omega)
  by_cases hp : 0 < R1
  · have h1 := HMP.out hp
    have n1 : decide (0 < R1) = true := decide_eq_true hp
    have n2 : decide (c < R1) = false := decide_eq_false (by omega)
    have n3 : decide (t ≤ u) = false := decide_eq_false (by omega)
    clear h1 hm0 hp
    by_cases ha : 150000 < t
    · go_wp2
      go_ret
      exact ⟨rfl, HB.out⟩
    · by_cases hb : t < 0
      · go_wp2
        go_ret
        exact ⟨rfl, HB.out⟩
      · have hc := HMM.out (by omega) (by omega)
        go_wp2
        go_ret
        exact ⟨rfl, HB.out⟩
  · have n1 : decide (0 < R1) = false := decide_eq_false hp
    clear hm0 hp
    by_cases ha : 150000 < t
    · go_wp2
      go_ret
      exact ⟨rfl, HB.out⟩
    · by_cases hb : t < 0
      · go_wp2
        go_ret
        exact ⟨rfl, HB.out⟩
      · have hc := HMM.out (by omega) (by omega)
        go_wp2
        go_ret
        exact ⟨rfl, HB.out⟩
end Go.Proofs.Ytadcmngooobeiaa.fnRefund
