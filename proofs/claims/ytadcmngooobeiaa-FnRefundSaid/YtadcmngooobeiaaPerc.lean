/- Percents, the program: slices.IsSorted, ArePercents. Written by hand. -/
import Derived.Test.YtadcmngooobeiaaPercS
namespace Go.Proofs.Ytadcmngooobeiaa
open Go.RowKit
theorem isnan_int (x : Int) (w : World) :
    Calls Try.prog 86 #[.int .i64 x] w fun e w' => e = .returned (.bool false) ∧ w = w' := by
  have h : (x != x) = false := by simp
  go_enter Try.func86, Try.ntmps86
  go_wp2
  go_ret
  exact ⟨rfl, rfl⟩
theorem less_int (x y : Int) (w : World) :
    Calls Try.prog 81 #[.int .i64 x, .int .i64 y] w fun e w' => e = .returned (.bool (decide (x < y))) ∧ w = w' := by
  go_enter Try.func81, Try.ntmps81
  go_wp2_with fail
  refine (isnan_int x w).mono ?_; rintro e u ⟨rfl, hu⟩; subst hu
  go_wp2
  go_ret
  exact ⟨rfl, rfl⟩
set_option maxRecDepth 100000 in
set_option maxHeartbeats 2000000 in
theorem sorted_int (A : Option Addr) (ca : Nat) (l : List Int) (w : World) (hA : IntsIn w A l) (h1 : 1 ≤ l.length) (hn : l.length ≤ 6) :
    Calls Try.prog 69 #[.slice A l.length ca] w fun e w' => e = .returned (.bool (upB l)) ∧ Below w.heap.size w w' := by
  have HA := Lib.hid hA; clear hA
  have HNO := Lib.hid (fun i (h : i < l.length) (h0 : 0 < i) (e : l[i] < l[i - 1]'(by omega)) => show upB l = false from decide_eq_false (fun h' => by have := h' i h h0; omega))
  have HYE := Lib.hid (fun (h : ∀ i (h : i < l.length), 0 < i → l[i - 1]'(by omega) ≤ l[i]) => show upB l = true from decide_eq_true h)
  generalize upB l = V at *
  obtain ⟨m, hm⟩ : ∃ m, l.length = m + 1 := ⟨l.length - 1, by omega⟩
  have HM := Lib.hid hm
  have hm5 : m ≤ 5 := by omega
  rw [hm]
  clear hm h1 hn
  have hmi : ((m + 1 : Nat) : Int) - 1 = (m : Int) := by omega
  go_enter Try.func69, Try.ntmps69
  go_wp2
  go_loopw [3] (fun i wr => ∃ j : Nat, i = .int .i64 j ∧ j ≤ m ∧ Hid (∀ i (h : i < l.length), 0 < i → j < i → l[i - 1]'(by omega) ≤ l[i]) ∧ Hid (Below w.heap.size w wr)) (fun i _ => (intOf i).toNat)
  case atStart => exact ⟨m, by first | rfl | go_num, Nat.le_refl _, Lib.hid (fun i h h0 hi => by have := HM.out; omega), Lib.hid (Below.refl _ _)⟩
  case round =>
    obtain ⟨j, rfl, hj, hall, hbw⟩ := hrel
    by_cases hlt : (0 : Int) < (j : Int)
    · have hj0 : 0 < j := by omega
      have hjl : j < l.length := by rw [HM.out]; omega
      have hAw := HA.out.below hbw.out
      obtain ⟨a, rfl, ha, c0⟩ := hAw j hjl
      obtain ⟨a', ea, _, p0⟩ := hAw (j - 1) (by omega)
      have ea2 : a' = a := by cases ea; rfl
      subst ea2
      clear ea hAw
      have HH := Lib.hid (HNO.out j hjl hj0)
      have HN := Lib.hid (fun (h : l[j - 1]'(by omega) ≤ l[j]) i (hi : i < l.length) (h0 : 0 < i) (hij : j - 1 < i) => show l[i - 1]'(by omega) ≤ l[i] by
        by_cases e : i = j
        · subst e; exact h
        · exact hall.out i hi h0 (by omega))
      clear hall
      obtain ⟨y, hy⟩ : ∃ y, y = l[j] := ⟨_, rfl⟩
      obtain ⟨pt, hpt⟩ : ∃ pt, pt = l[j - 1]'(by omega) := ⟨_, rfl⟩
      rw [← hy, ← hpt] at HH HN
      rw [← hy] at c0
      rw [← hpt] at p0
      clear hy hpt
      go_wp2_with fail
      have c0F := far_cell ha c0; have p0F := far_cell ha p0
      clear c0 p0
      have HC1 := Lib.hid (fun x' => less_int y pt (far wr x'))
      have hjm : (j : Int) - 1 = ((j - 1 : Nat) : Int) := by omega
      have hjw : wrap64 ((j : Int) - 1) = ((j - 1 : Nat) : Int) := by rw [wrapP_id (by omega)]; exact hjm
      have hj1 : ((j - 1 : Nat) : Int) < ((m + 1 : Nat) : Int) := by omega
      have hj2 : (0 : Int) ≤ ((j - 1 : Nat) : Int) := by omega
      have hj3 : (j : Int) < ((m + 1 : Nat) : Int) := by omega
      by_cases h3 : y < pt
      · have HVF := Lib.hid (HH.out h3)
        have h3d : decide (y < pt) = true := decide_eq_true h3
        rw [h3d] at HC1
        clear HH HN h3
        refine wp_region_far (by kernel_rfl) (by kernel_rfl) ?_
        repeat (any_goals (first | go_big_quiet_step ((go_at_call 81; with_reducible exact call_far_same (HC1.out _))) | quiet_step ((go_at_call 81; with_reducible exact call_far_same (HC1.out _)))))
        refine wpQuiet_nil ?_; intro wz hw
        have hb : Below wr.heap.size wr wz := by obtain ⟨u, rfl⟩ := hw; exact below_far wr u
        have HB2 := Lib.hid (hbw.out.trans (hb.mono hbw.out.size))
        clear hw hb
        go_wp2
        go_ret
        exact ⟨ret_bool HVF.out.symm, HB2.out⟩
      · have HVN := Lib.hid (HN.out (by omega))
        have h3d : decide (y < pt) = false := decide_eq_false h3
        rw [h3d] at HC1
        clear HH HN h3
        refine wp_region_far (by kernel_rfl) (by kernel_rfl) ?_
        repeat (any_goals (first | go_big_quiet_step ((go_at_call 81; with_reducible exact call_far_same (HC1.out _))) | quiet_step ((go_at_call 81; with_reducible exact call_far_same (HC1.out _)))))
        refine wpQuiet_nil ?_; intro wz hw
        have hb : Below wr.heap.size wr wz := by obtain ⟨u, rfl⟩ := hw; exact below_far wr u
        have HB2 := Lib.hid (hbw.out.trans (hb.mono hbw.out.size))
        clear hw hb
        go_wp2
        go_roundw
        case rel => exact ⟨j - 1, by first | rfl | (rw [hjw]) | go_num, by omega, HVN, HB2⟩
        case measure => simp [intOf]; omega
    · have HVF := Lib.hid (HYE.out (fun i hi h0 => hall.out i hi h0 (by omega)))
      clear hall
      go_wp2
      go_ret
      exact ⟨ret_bool HVF.out.symm, hbw.out⟩
set_option maxRecDepth 100000 in
set_option maxHeartbeats 2000000 in
theorem perc_impl (A : Option Addr) (ca : Nat) (l : List Int) (w : World) (hA : IntsIn w A l) (hn : l.length ≤ 1048576) :
    Calls Try.prog 38 #[.slice A l.length ca] w fun e w' => e = .returned (.bool (percB l)) ∧ Below w.heap.size w w' := by
  have HV := Lib.hid (perc_eq l)
  generalize percB l = V at *
  have HA := Lib.hid hA; clear hA
  have HSO := Lib.hid (fun W (h : IntsIn W A l) h1 h2 => sorted_int A ca l W h h1 h2)
  have HC0 := Lib.hid (fun W (h : IntsIn W A l) (h1 : 1 ≤ l.length) => show ∃ g, A = some ⟨g, 0, none⟩ ∧ g < W.heap.size ∧ W.cell? ⟨g, 0, none⟩ = some (.int .i64 (l.getD 0 0)) ∧ W.cell? ⟨g, l.length - 1, none⟩ = some (.int .i64 (l.getD (l.length - 1) 0)) by
    obtain ⟨g, e, hg, c⟩ := h 0 (by omega)
    obtain ⟨g', e', _, c'⟩ := h (l.length - 1) (by omega)
    rw [e] at e'; cases e'
    refine ⟨g, e, hg, ?_, ?_⟩
    · rw [c]; unfold List.getD; rw [List.getElem?_eq_getElem (by omega)]; rfl
    · rw [c']; unfold List.getD; rw [List.getElem?_eq_getElem (by omega)]; rfl)
  generalize upB l = U at *
  generalize l.getD 0 0 = F0 at *
  generalize l.getD (l.length - 1) 0 = F1 at *
  obtain ⟨L, hL⟩ : ∃ L, L = l.length := ⟨_, rfl⟩
  rw [← hL] at HV HSO HC0 ⊢
  clear hL hn
  by_cases h1 : 1 ≤ L
  rotate_left
  · have HVF := Lib.hid (HV.out.trans (show _ = false by rw [decide_eq_false h1]; rfl))
    go_enter Try.func38, Try.ntmps38
    go_wp2
    go_ret
    exact ⟨ret_bool HVF.out.symm, Below.refl _ _⟩
  by_cases h6 : L ≤ 6
  rotate_left
  · have HVF := Lib.hid (HV.out.trans (show _ = false by rw [decide_eq_false h6]; simp only [Bool.false_and, Bool.and_false]))
    go_enter Try.func38, Try.ntmps38
    go_wp2
    go_ret
    exact ⟨ret_bool HVF.out.symm, Below.refl _ _⟩
  replace HV := Lib.hid (HV.out.trans (show _ = (U && (decide (0 ≤ F0) && decide (F1 ≤ 100))) by rw [decide_eq_true h1, decide_eq_true h6]; rfl))
  have HSW := Lib.hid (HSO.out w HA.out h1 h6)
  have h1i : (1 : Int) ≤ (L : Int) := by omega
  have h0i : (0 : Int) < (L : Int) := by omega
  have h6i : (L : Int) ≤ 6 := by omega
  have hlm : (L : Int) - 1 = ((L - 1 : Nat) : Int) := by omega
  have hlw : wrap64 ((L : Int) - 1) = ((L - 1 : Nat) : Int) := by rw [wrapP_id (by omega)]; exact hlm
  have hl1 : ((L - 1 : Nat) : Int) < (L : Int) := by omega
  have hl2 : (0 : Int) ≤ ((L - 1 : Nat) : Int) := by omega
  go_enter Try.func38, Try.ntmps38
  go_wp2_with fail
  refine HSW.out.mono ?_; rintro e w1 ⟨rfl, hb⟩
  obtain ⟨g, rfl, hg, c0, c1⟩ := HC0.out w1 (HA.out.below hb) h1
  have HB := Lib.hid hb; clear hb
  cases q0 : U with
  | false =>
    have HVF := Lib.hid (HV.out.trans (show _ = false by rw [q0]; rfl))
    go_wp2
    go_ret
    exact ⟨ret_bool HVF.out.symm, HB.out⟩
  | true =>
    by_cases q1 : 0 ≤ F0
    rotate_left
    · have HVF := Lib.hid (HV.out.trans (show _ = false by rw [decide_eq_false q1]; simp only [Bool.false_and, Bool.and_false]))
      go_wp2
      go_ret
      exact ⟨ret_bool HVF.out.symm, HB.out⟩
    have HVF := Lib.hid (HV.out.trans (show _ = decide (F1 ≤ 100) by rw [q0, decide_eq_true q1]; rfl))
    go_wp2
    go_ret
    exact ⟨ret_bool HVF.out.symm, HB.out⟩
end Go.Proofs.Ytadcmngooobeiaa
