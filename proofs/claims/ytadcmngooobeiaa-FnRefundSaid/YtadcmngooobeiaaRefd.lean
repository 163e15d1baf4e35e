/- RefundFor, both texts. Written by hand. -/
import Derived.Test.YtadcmngooobeiaaPerc
namespace Go.Proofs.Ytadcmngooobeiaa
open Go.RowKit
/-- which percent: that of the day, or the last one -/
def dayP (u e : Int) (l : List Int) : Nat := min ((e - u - 1).toNat / 1440) (l.length - 1)
def refOk (c u e : Int) (l : List Int) : Bool := percB l && (inB c 0 100000 && (inB u 0 200000 && (inB e 0 200000 && decide (u < e))))
def refB (c u e : Int) (l : List Int) : Int := if refOk c u e l then c * l.getD (dayP u e l) 0 / 100 else 0
theorem refB_no {c u e : Int} {l : List Int} (h : refOk c u e l = false) : refB c u e l = 0 := by unfold refB; rw [h]; rfl
theorem refB_yes {c u e : Int} {l : List Int} (h : refOk c u e l = true) : refB c u e l = c * l.getD (dayP u e l) 0 / 100 := by unfold refB; rw [h]; rfl
theorem perc_at {l : List Int} (h : percB l = true) : (1 ≤ l.length ∧ l.length ≤ 6) ∧ ∀ i (_ : i < l.length), 0 ≤ l.getD i 0 ∧ l.getD i 0 ≤ 100 := by
  have h' := of_decide_eq_true h
  refine ⟨h'.1, fun i hi => ?_⟩
  have := (h'.2 i hi).1
  unfold List.getD; rw [List.getElem?_eq_getElem hi]; exact this
theorem le_of_not_sub {L X : Nat} (h : ¬ X ≤ L - 1) : L ≤ X := by omega
theorem due_time (t : Int) (w : World) :
    Calls Try.prog 70 #[.int .i64 t] w fun e w' => e = .returned (.bool (inB t 0 200000)) ∧ w = w' := by
  have HV := Lib.hid (show inB t 0 200000 = (decide (0 ≤ t) && decide (t ≤ 200000)) by unfold inB; rw [Bool.decide_and])
  generalize inB t 0 200000 = V at *
  by_cases h : 0 ≤ t
  · have HVF := Lib.hid (HV.out.trans (show _ = decide (t ≤ 200000) by rw [decide_eq_true h]; rfl))
    go_enter Try.func70, Try.ntmps70
    go_wp2
    go_ret
    exact ⟨ret_bool HVF.out.symm, rfl⟩
  · have HVF := Lib.hid (HV.out.trans (show _ = false by rw [decide_eq_false h]; rfl))
    go_enter Try.func70, Try.ntmps70
    go_wp2
    go_ret
    exact ⟨ret_bool HVF.out.symm, rfl⟩
set_option maxRecDepth 100000 in
set_option maxHeartbeats 200000 in
theorem refd_impl (c u e : Int) (A : Option Addr) (ca : Nat) (l : List Int) (w : World) (hA : IntsIn w A l) (hn : l.length ≤ 1048576) :
    Calls Try.prog 41 #[.int .i64 c, .int .i64 u, .int .i64 e, .slice A l.length ca] w fun e' w' => e' = .returned (.int .i64 (refB c u e l)) ∧ Below w.heap.size w w' := by
  have HO := Lib.hid (show refOk c u e l = (percB l && (inB c 0 100000 && (inB u 0 200000 && (inB e 0 200000 && decide (u < e))))) from rfl)
  have HVN := Lib.hid (fun h => refB_no (c := c) (u := u) (e := e) (l := l) h)
  have HVY := Lib.hid (fun h => refB_yes (c := c) (u := u) (e := e) (l := l) h)
  have HPA := Lib.hid (fun h => perc_at (l := l) h)
  have HP := Lib.hid (fun W (h : IntsIn W A l) => perc_impl A ca l W h hn)
  have HCI := Lib.hid (fun i (hi : i < l.length) W (h : IntsIn W A l) => show ∃ g, A = some ⟨g, 0, none⟩ ∧ g < W.heap.size ∧ W.cell? ⟨g, i, none⟩ = some (.int .i64 (l.getD i 0)) by
    obtain ⟨g, e, hg, c⟩ := h i hi
    exact ⟨g, e, hg, by rw [c]; unfold List.getD; rw [List.getElem?_eq_getElem hi]; rfl⟩)
  have HD := Lib.hid (show dayP u e l = min ((e - u - 1).toNat / 1440) (l.length - 1) from rfl)
  have HA := Lib.hid hA; clear hA
  generalize refB c u e l = V at *
  generalize refOk c u e l = OK at *
  generalize percB l = PB at *
  generalize dayP u e l = K at *
  by_cases q4 : u < e
  rotate_left
  · have d4 : decide (e ≤ u) = true := decide_eq_true (by omega)
    have d5 : e ≤ u := by omega
    go_enter Try.func41, Try.ntmps41
    have HVF := Lib.hid (HVN.out (HO.out.trans (show _ = false by rw [decide_eq_false q4]; simp only [Bool.and_false])))
    go_wp2
    go_ret
    exact ⟨ret_int HVF.out.symm, Below.refl _ _⟩
  have d4 : decide (e ≤ u) = false := decide_eq_false (by omega)
  go_enter Try.func41, Try.ntmps41
  go_wp2_with fail
  refine (HP.out w HA.out).mono ?_; rintro e' w1 ⟨rfl, hb⟩
  replace HA := Lib.hid (HA.out.below hb)
  have HB := Lib.hid hb; clear hb
  cases q0 : PB with
  | false =>
    have HVF := Lib.hid (HVN.out (HO.out.trans (show _ = false by rw [q0]; rfl)))
    go_wp2
    go_ret
    exact ⟨ret_int HVF.out.symm, HB.out⟩
  | true =>
  have HC := Lib.hid (show inB c 0 100000 = (decide (0 ≤ c) && decide (c ≤ 100000)) by unfold inB; rw [Bool.decide_and])
  by_cases q1a : 0 ≤ c
  rotate_left
  · have d1 : c < 0 := by omega
    have HVF := Lib.hid (HVN.out (HO.out.trans (show _ = false by rw [HC.out, decide_eq_false q1a]; simp only [Bool.false_and, Bool.and_false])))
    go_wp2
    go_ret
    exact ⟨ret_int HVF.out.symm, HB.out⟩
  by_cases q1b : c ≤ 100000
  rotate_left
  · have d1 : ¬ c < 0 := by omega
    have d2 : 100000 < c := by omega
    have HVF := Lib.hid (HVN.out (HO.out.trans (show _ = false by rw [HC.out, decide_eq_false q1b]; simp only [Bool.false_and, Bool.and_false])))
    go_wp2
    go_ret
    exact ⟨ret_int HVF.out.symm, HB.out⟩
  have q1 : inB c 0 100000 = true := HC.out.trans (by rw [decide_eq_true q1a, decide_eq_true q1b]; rfl)
  have d1 : ¬ c < 0 := by omega
  have d2 : ¬ 100000 < c := by omega
  go_wp2_with fail
  refine (due_time u w1).mono ?_; rintro e' u1 ⟨rfl, hu⟩; subst hu
  cases q2 : inB u 0 200000 with
  | false =>
    have HVF := Lib.hid (HVN.out (HO.out.trans (show _ = false by rw [q2]; simp only [Bool.false_and, Bool.and_false])))
    go_wp2
    go_ret
    exact ⟨ret_int HVF.out.symm, HB.out⟩
  | true =>
  go_wp2_with fail
  refine (due_time e w1).mono ?_; rintro e' u1 ⟨rfl, hu⟩; subst hu
  cases q3 : inB e 0 200000 with
  | false =>
    have HVF := Lib.hid (HVN.out (HO.out.trans (show _ = false by rw [q3]; simp only [Bool.false_and, Bool.and_false])))
    go_wp2
    go_ret
    exact ⟨ret_int HVF.out.symm, HB.out⟩
  | true =>
  have HOT := Lib.hid (HVY.out (HO.out.trans (show _ = true by rw [q0, q1, q2, q3, decide_eq_true q4]; rfl)))
  have HPP := Lib.hid (HPA.out q0)
  have hc := inB_iff.1 q1; have hu := inB_iff.1 q2; have he := inB_iff.1 q3
  obtain ⟨D, hD⟩ : ∃ D : Nat, e - u - 1 = (D : Int) := ⟨(e - u - 1).toNat, by omega⟩
  have hDb : D ≤ 200000 := by omega
  replace HD := Lib.hid (HD.out.trans (show _ = min (D / 1440) (l.length - 1) by rw [hD]; rfl))
  have hKl : K < l.length := by have h1 := HD.out; have h2 := HPP.out.1.1; omega
  obtain ⟨g, rfl, hg, cK⟩ := HCI.out K hKl w1 HA.out
  have hpk := HPP.out.2 K hKl
  generalize l.getD K 0 = p at *
  have hmul : 0 ≤ c * p ∧ c * p ≤ 10000000 := ⟨Int.mul_nonneg hc.1 hpk.1, Int.le_trans (Int.mul_le_mul hc.2 hpk.2 hpk.1 (by omega)) (by omega)⟩
  have hlen := HPP.out.1
  obtain ⟨L, hL⟩ : ∃ L, L = l.length := ⟨_, rfl⟩
  rw [← hL] at HD hKl hlen ⊢
  have HLE := Lib.hid hL; clear hL
  obtain ⟨X, hX⟩ : ∃ X, X = D / 1440 := ⟨_, rfl⟩
  have hx_ : (e - u - 1) / 1440 = (X : Int) := by rw [hD, hX]; omega
  have hl0 : (L : Int) - 1 = ((L - 1 : Nat) : Int) := by omega
  have hl1 : wrap64 ((L : Int) - 1) = ((L - 1 : Nat) : Int) := by rw [hl0]; exact wrapP_id (by omega)
  rw [← hX] at HD
  clear hX
  have HXX := Lib.hid hx_; clear hx_
  have HDD := Lib.hid hD; clear hD
  by_cases hk : X ≤ L - 1
  · obtain rfl : K = X := HD.out.trans (Nat.min_eq_left hk)
    have hki : (K : Int) ≤ ((L - 1 : Nat) : Int) := Int.ofNat_le.2 hk
    have hx := HXX.out
    go_wp2
    go_ret
    exact ⟨ret_int HOT.out.symm, HB.out⟩
  · obtain rfl : K = L - 1 := HD.out.trans (Nat.min_eq_right (Nat.le_of_lt (Nat.not_le.1 hk)))
    have hki : ¬ (X : Int) ≤ ((L - 1 : Nat) : Int) := fun h => hk (Int.ofNat_le.1 h)
    have hx := HXX.out
    go_wp2
    go_ret
    exact ⟨ret_int HOT.out.symm, HB.out⟩
set_option maxRecDepth 100000 in
set_option maxHeartbeats 200000 in
theorem refd_spec (c u e : Int) (A : Option Addr) (ca : Nat) (l : List Int) (w : World) (hA : IntsIn w A l) (hn : l.length ≤ 1048576) :
    Calls Try.prog 40 #[.int .i64 c, .int .i64 u, .int .i64 e, .slice A l.length ca] w fun e' w' => e' = .returned (.int .i64 (refB c u e l)) ∧ Below w.heap.size w w' := by
  have HO := Lib.hid (show refOk c u e l = (percB l && (inB c 0 100000 && (inB u 0 200000 && (inB e 0 200000 && decide (u < e))))) from rfl)
  have HVN := Lib.hid (fun h => refB_no (c := c) (u := u) (e := e) (l := l) h)
  have HVY := Lib.hid (fun h => refB_yes (c := c) (u := u) (e := e) (l := l) h)
  have HPA := Lib.hid (fun h => perc_at (l := l) h)
  have HP := Lib.hid (fun W (h : IntsIn W A l) => perc_spec A ca l W h hn)
  have HCI := Lib.hid (fun i (hi : i < l.length) W (h : IntsIn W A l) => show ∃ g, A = some ⟨g, 0, none⟩ ∧ g < W.heap.size ∧ W.cell? ⟨g, i, none⟩ = some (.int .i64 (l.getD i 0)) by
    obtain ⟨g, e, hg, c⟩ := h i hi
    exact ⟨g, e, hg, by rw [c]; unfold List.getD; rw [List.getElem?_eq_getElem hi]; rfl⟩)
  have HD := Lib.hid (show dayP u e l = min ((e - u - 1).toNat / 1440) (l.length - 1) from rfl)
  have HA := Lib.hid hA; clear hA
  generalize refB c u e l = V at *
  generalize refOk c u e l = OK at *
  generalize percB l = PB at *
  generalize dayP u e l = K at *
  go_enter Try.func40, Try.ntmps40
  go_wp2_with fail
  refine (HP.out w HA.out).mono ?_; rintro e' w1 ⟨rfl, hb⟩
  replace HA := Lib.hid (HA.out.below hb)
  have HB := Lib.hid hb; clear hb
  cases q0 : PB with
  | false =>
    have HVF := Lib.hid (HVN.out (HO.out.trans (show _ = false by rw [q0]; rfl)))
    go_wp2
    go_ret
    exact ⟨ret_int HVF.out.symm, HB.out⟩
  | true =>
  go_wp2_with fail
  refine (in_any c 0 100000 w1).mono ?_; rintro e' u1 ⟨rfl, hu⟩; subst hu
  cases q1 : inB c 0 100000 with
  | false =>
    have HVF := Lib.hid (HVN.out (HO.out.trans (show _ = false by rw [q1]; simp only [Bool.false_and, Bool.and_false])))
    go_wp2
    go_ret
    exact ⟨ret_int HVF.out.symm, HB.out⟩
  | true =>
  go_wp2_with fail
  refine (in_any u 0 200000 w1).mono ?_; rintro e' u1 ⟨rfl, hu⟩; subst hu
  cases q2 : inB u 0 200000 with
  | false =>
    have HVF := Lib.hid (HVN.out (HO.out.trans (show _ = false by rw [q2]; simp only [Bool.false_and, Bool.and_false])))
    go_wp2
    go_ret
    exact ⟨ret_int HVF.out.symm, HB.out⟩
  | true =>
  go_wp2_with fail
  refine (in_any e 0 200000 w1).mono ?_; rintro e' u1 ⟨rfl, hu⟩; subst hu
  cases q3 : inB e 0 200000 with
  | false =>
    have HVF := Lib.hid (HVN.out (HO.out.trans (show _ = false by rw [q3]; simp only [Bool.false_and, Bool.and_false])))
    go_wp2
    go_ret
    exact ⟨ret_int HVF.out.symm, HB.out⟩
  | true =>
  by_cases q4 : u < e
  rotate_left
  · have d4 : decide (e ≤ u) = true := decide_eq_true (by omega)
    have d5 : e ≤ u := by omega
    have HVF := Lib.hid (HVN.out (HO.out.trans (show _ = false by rw [decide_eq_false q4]; simp only [Bool.and_false])))
    go_wp2
    go_ret
    exact ⟨ret_int HVF.out.symm, HB.out⟩
  have d4 : decide (e ≤ u) = false := decide_eq_false (by omega)
  have d5 : ¬ e ≤ u := by omega
  have HOT := Lib.hid (HVY.out (HO.out.trans (show _ = true by rw [q0, q1, q2, q3, decide_eq_true q4]; rfl)))
  have HPP := Lib.hid (HPA.out q0)
  have hc := inB_iff.1 q1; have hu := inB_iff.1 q2; have he := inB_iff.1 q3
  obtain ⟨D, hD⟩ : ∃ D : Nat, e - u - 1 = (D : Int) := ⟨(e - u - 1).toNat, by omega⟩
  have hDb : D ≤ 200000 := by omega
  replace HD := Lib.hid (HD.out.trans (show _ = min (D / 1440) (l.length - 1) by rw [hD]; rfl))
  have hKl : K < l.length := by have h1 := HD.out; have h2 := HPP.out.1.1; omega
  obtain ⟨g, rfl, hg, cK⟩ := HCI.out K hKl w1 HA.out
  have hpk := HPP.out.2 K hKl
  generalize l.getD K 0 = p at *
  have hmul : 0 ≤ c * p ∧ c * p ≤ 10000000 := ⟨Int.mul_nonneg hc.1 hpk.1, Int.le_trans (Int.mul_le_mul hc.2 hpk.2 hpk.1 (by omega)) (by omega)⟩
  have hlen := HPP.out.1
  obtain ⟨L, hL⟩ : ∃ L, L = l.length := ⟨_, rfl⟩
  rw [← hL] at HD hKl hlen ⊢
  have HLE := Lib.hid hL; clear hL
  obtain ⟨X, hX⟩ : ∃ X, X = D / 1440 := ⟨_, rfl⟩
  have hx_ : (e - u - 1) / 1440 = (X : Int) := by rw [hD, hX]; omega
  have hl0 : (L : Int) - 1 = ((L - 1 : Nat) : Int) := by omega
  have hl1 : wrap64 ((L : Int) - 1) = ((L - 1 : Nat) : Int) := by rw [hl0]; exact wrapP_id (by omega)
  rw [← hX] at HD
  clear hX
  have HXX := Lib.hid hx_; clear hx_
  have HDD := Lib.hid hD; clear hD
  by_cases hk : X ≤ L - 1
  · obtain rfl : K = X := HD.out.trans (Nat.min_eq_left hk)
    have hki : ¬ (L : Int) ≤ (K : Int) := fun h => absurd (Int.ofNat_le.1 h) (Nat.not_le.2 hKl)
    have hkn : ¬ L ≤ K := Nat.not_le.2 hKl
    have hkj : (K : Int) < (L : Int) := Int.ofNat_lt.2 hKl
    have hx := HXX.out
    go_wp2
    go_ret
    exact ⟨ret_int HOT.out.symm, HB.out⟩
  · obtain rfl : K = L - 1 := HD.out.trans (Nat.min_eq_right (Nat.le_of_lt (Nat.not_le.1 hk)))
    have hkn : L ≤ X := le_of_not_sub hk
    have hki : (L : Int) ≤ (X : Int) := Int.ofNat_le.2 hkn
    have hx := HXX.out
    go_wp2
    go_ret
    exact ⟨ret_int HOT.out.symm, HB.out⟩
end Go.Proofs.Ytadcmngooobeiaa
