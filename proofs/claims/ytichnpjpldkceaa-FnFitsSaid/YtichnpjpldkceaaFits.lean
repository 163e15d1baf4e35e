/- Contracts of the two texts of FitsIn. -/
import Derived.Test.YtichnpjpldkceaaGirth
namespace Go.Proofs.Ytichnpjpldkceaa
open Go.RowKit
theorem leL_no {a b : List Int} {k : Nat} (hk : k < 3) (h : b.getD k 0 < a.getD k 0) : leL a b = false := by
  unfold leL
  have hc : k = 0 ∨ k = 1 ∨ k = 2 := by omega
  rcases hc with rfl | rfl | rfl
  · rw [decide_eq_false (by omega)]; rfl
  · rw [decide_eq_false (p := a.getD 1 0 ≤ b.getD 1 0) (by omega)]; simp
  · rw [decide_eq_false (p := a.getD 2 0 ≤ b.getD 2 0) (by omega)]; simp
theorem leL_yes {a b : List Int} (h : ∀ k, k < 3 → a.getD k 0 ≤ b.getD k 0) : leL a b = true := by
  unfold leL
  have h0 := h 0 (by omega); have h1 := h 1 (by omega); have h2 := h 2 (by omega)
  rw [decide_eq_true h0, decide_eq_true h1, decide_eq_true h2]; rfl
theorem OwnI.get {w : World} {base g cap n : Nat} {l : List Int} (h : OwnI w base (.slice (some ⟨g, 0, none⟩) n cap) l) (j : Nat) (hj : j < l.length) : w.cell? ⟨g, j, none⟩ = some (.int .i64 (l.getD j 0)) := by
  obtain ⟨rfl, hi⟩ := h.ins
  obtain ⟨g', e, _, hc⟩ := hi j hj
  cases e
  rw [hc]; simp [List.getD, hj]
set_option maxRecDepth 100000 in
set_option maxHeartbeats 1000000 in
theorem fit_impl (A B : Option Addr) (ca cb : Nat) (xs ys : List Int) (w : World) (hA : IntsIn w A xs) (hB : IntsIn w B ys) (hn : xs.length ≤ 17592186044415) (hm : ys.length ≤ 17592186044415) :
    Calls Try.prog 18 #[.slice A xs.length ca, .slice B ys.length cb] w fun e w' => e = .returned (.bool (fitB xs ys)) ∧ Below w.heap.size w w' := by
  have HA := Lib.hid hA; clear hA
  have HB := Lib.hid hB; clear hB
  cases h1 : thrB xs with
  | false =>
    have H1 := Lib.hid (show fitB xs ys = false by unfold fitB; rw [h1]; rfl)
    have H2 := Lib.hid (three_impl A ca xs w HA.out hn)
    rw [h1] at H2
    clear h1
    go_enter Try.func18, Try.ntmps18
    go_wp2_with fail
    refine H2.out.mono ?_; rintro e w' ⟨rfl, rfl⟩
    go_wp2
    go_ret
    exact ⟨ret_bool H1.out.symm, Below.refl _ _⟩
  | true =>
    cases h2 : thrB ys with
    | false =>
      have H1 := Lib.hid (show fitB xs ys = false by unfold fitB; rw [h1, h2]; rfl)
      have H2 := Lib.hid (three_impl A ca xs w HA.out hn)
      have H3 := Lib.hid (three_impl B cb ys w HB.out hm)
      rw [h1] at H2; rw [h2] at H3
      clear h1 h2
      go_enter Try.func18, Try.ntmps18
      go_wp2_with fail
      refine H2.out.mono ?_; rintro e w' ⟨rfl, rfl⟩
      go_wp2_with fail
      refine H3.out.mono ?_; rintro e w' ⟨rfl, rfl⟩
      go_wp2
      go_ret
      exact ⟨ret_bool H1.out.symm, Below.refl _ _⟩
    | true =>
      have hl1 : (sortD xs).length = 3 := by obtain ⟨_, _, _, e, _⟩ := thr_sort h1; rw [e]; rfl
      have hl2 : (sortD ys).length = 3 := by obtain ⟨_, _, _, e, _⟩ := thr_sort h2; rw [e]; rfl
      have H1 := Lib.hid (show fitB xs ys = leL (sortD xs) (sortD ys) by unfold fitB; rw [h1, h2]; rfl)
      have H2 := Lib.hid (three_impl A ca xs w HA.out hn)
      have H3 := Lib.hid (three_impl B cb ys w HB.out hm)
      rw [h1] at H2; rw [h2] at H3
      clear h1 h2
      go_enter Try.func18, Try.ntmps18
      go_wp2_with fail
      refine H2.out.mono ?_; rintro e w' ⟨rfl, rfl⟩
      go_wp2_with fail
      refine H3.out.mono ?_; rintro e w' ⟨rfl, rfl⟩
      go_wp2_with fail
      refine (sort_impl A ca xs _ HA.out hn).mono ?_; rintro e w1 ⟨v, rfl, ho1, hb1⟩
      go_wp2_with fail
      refine (sort_impl B cb ys _ (HB.out.below hb1) hm).mono ?_; rintro e w2 ⟨u, rfl, ho2, hb2⟩
      replace ho1 := ho1.below hb2
      replace hb2 := hb1.trans (hb2.mono hb1.size)
      obtain ⟨X, hX⟩ : ∃ X, X = sortD xs := ⟨_, rfl⟩
      obtain ⟨Y, hY⟩ : ∃ Y, Y = sortD ys := ⟨_, rfl⟩
      rw [← hX] at ho1 hl1; rw [← hY] at ho2 hl2
      rw [← hX, ← hY] at H1
      clear hX hY hb1
      obtain ⟨g, c1, rfl, _, _⟩ := ho1.row (by intro h; rw [h] at hl1; simp at hl1)
      obtain ⟨g', c2, rfl, _, _⟩ := ho2.row (by intro h; rw [h] at hl2; simp at hl2)
      rw [hl1] at ho1 ⊢; rw [hl2] at ho2 ⊢
      have HX : Hid (∀ k, k < 3 → w2.cell? ⟨g, k, none⟩ = some (.int .i64 (X.getD k 0))) := Lib.hid (fun k hk => ho1.get k (by omega))
      have HY : Hid (∀ k, k < 3 → w2.cell? ⟨g', k, none⟩ = some (.int .i64 (Y.getD k 0))) := Lib.hid (fun k hk => ho2.get k (by omega))
      clear ho1 ho2 hl1 hl2
      go_wp2
      go_loopw [20] (fun i wr => ∃ k q : Nat, k ≤ 3 ∧ i = .int .i64 k ∧ wr = w2.drewN q ∧ Hid (∀ j, j < k → X.getD j 0 ≤ Y.getD j 0)) (fun i _ => 3 - (intOf i).toNat)
      case atStart => exact ⟨0, 0, by omega, rfl, rfl, Lib.hid (fun j h => by omega)⟩
      case round =>
        obtain ⟨k, q, hk, rfl, rfl, hd⟩ := hrel
        by_cases hlt : (k : Int) < 3
        · have k1 := HX.out k (by omega)
          have k2 := HY.out k (by omega)
          obtain ⟨x, hx⟩ : ∃ x, x = X.getD k 0 := ⟨_, rfl⟩
          obtain ⟨y, hy⟩ : ∃ y, y = Y.getD k 0 := ⟨_, rfl⟩
          rw [← hx] at k1; rw [← hy] at k2
          have HX1 := Lib.hid hx; have HY1 := Lib.hid hy; clear hx hy
          have hk3 : k < 3 := by omega
          by_cases hyx : y < x
          · go_wp2_with fail
            go_quiet (fail)
            go_wp2
            go_ret
            exact ⟨ret_bool (by rw [H1.out, leL_no hk3 (by rw [← HX1.out, ← HY1.out]; exact hyx)]), below_drewN (below_drewN hb2 _) _⟩
          · go_wp2_with fail
            go_quiet (fail)
            go_wp2
            go_roundw
            case rel =>
              refine ⟨k + 1, q + nq, by omega, by go_num, by simp [World.drewN], Lib.hid (fun j hj => ?_)⟩
              by_cases e : j = k
              · subst e; rw [← HX1.out, ← HY1.out]; omega
              · exact hd.out j (by omega)
            case measure => simp [intOf]; omega
        · obtain rfl : k = 3 := by omega
          go_wp2
          go_ret
          exact ⟨ret_bool (by rw [H1.out, leL_yes hd.out]), below_drewN hb2 _⟩
set_option maxRecDepth 100000 in
set_option maxHeartbeats 1000000 in
theorem fit_spec (A B : Option Addr) (ca cb : Nat) (xs ys : List Int) (w : World) (hA : IntsIn w A xs) (hB : IntsIn w B ys) (hn : xs.length ≤ 1048576) (hm : ys.length ≤ 1048576) :
    Calls Try.prog 19 #[.slice A xs.length ca, .slice B ys.length cb] w fun e w' => e = .returned (.bool (fitB xs ys)) ∧ Below w.heap.size w w' := by
  have HA := Lib.hid hA; clear hA
  have HB := Lib.hid hB; clear hB
  cases h1 : thrB xs with
  | false =>
    have H1 := Lib.hid (show fitB xs ys = false by unfold fitB; rw [h1]; rfl)
    have H2 := Lib.hid (three_spec A ca xs w HA.out (by omega))
    rw [h1] at H2
    clear h1
    go_enter Try.func19, Try.ntmps19
    go_wp2_with fail
    refine H2.out.mono ?_; rintro e w' ⟨rfl, rfl⟩
    go_wp2
    go_ret
    exact ⟨ret_bool H1.out.symm, Below.refl _ _⟩
  | true =>
    cases h2 : thrB ys with
    | false =>
      have H1 := Lib.hid (show fitB xs ys = false by unfold fitB; rw [h1, h2]; rfl)
      have H2 := Lib.hid (three_spec A ca xs w HA.out (by omega))
      have H3 := Lib.hid (three_spec B cb ys w HB.out (by omega))
      rw [h1] at H2; rw [h2] at H3
      clear h1 h2
      go_enter Try.func19, Try.ntmps19
      go_wp2_with fail
      refine H2.out.mono ?_; rintro e w' ⟨rfl, rfl⟩
      go_wp2_with fail
      refine H3.out.mono ?_; rintro e w' ⟨rfl, rfl⟩
      go_wp2
      go_ret
      exact ⟨ret_bool H1.out.symm, Below.refl _ _⟩
    | true =>
      obtain ⟨x0, x1, x2, hX, _⟩ := thr_sort h1
      obtain ⟨y0, y1, y2, hY, _⟩ := thr_sort h2
      have H1 := Lib.hid (show fitB xs ys = leL [x0, x1, x2] [y0, y1, y2] by unfold fitB; rw [h1, h2, hX, hY]; rfl)
      have H2 := Lib.hid (three_spec A ca xs w HA.out (by omega))
      have H3 := Lib.hid (three_spec B cb ys w HB.out (by omega))
      rw [h1] at H2; rw [h2] at H3
      have HX := Lib.hid hX; have HY := Lib.hid hY
      clear h1 h2 hX hY
      go_enter Try.func19, Try.ntmps19
      go_wp2_with fail
      refine H2.out.mono ?_; rintro e w' ⟨rfl, rfl⟩
      go_wp2_with fail
      refine H3.out.mono ?_; rintro e w' ⟨rfl, rfl⟩
      go_wp2_with fail
      refine (sort_spec A ca xs _ HA.out hn).mono ?_; rintro e w1 ⟨v, rfl, ho1, hb1⟩
      go_wp2_with fail
      refine (sort_spec B cb ys _ (HB.out.below hb1) hm).mono ?_; rintro e w2 ⟨u, rfl, ho2, hb2⟩
      replace ho1 := ho1.below hb2
      replace hb2 := hb1.trans (hb2.mono hb1.size)
      rw [HX.out] at ho1; rw [HY.out] at ho2
      obtain ⟨g, c1, rfl, _, _⟩ := ho1.row (by simp)
      obtain ⟨g', c2, rfl, _, _⟩ := ho2.row (by simp)
      have k0 := ho1.cell 0 (by simp)
      have k1 := ho1.cell 1 (by simp)
      have k2 := ho1.cell 2 (by simp)
      have m0 := ho2.cell 0 (by simp)
      have m1 := ho2.cell 1 (by simp)
      have m2 := ho2.cell 2 (by simp)
      simp only [List.getElem_cons_zero, List.getElem_cons_succ] at k0 k1 k2 m0 m1 m2
      rw [show [x0, x1, x2].length = 3 from rfl, show [y0, y1, y2].length = 3 from rfl]
      clear ho1 ho2 hb1
      by_cases q0 : x0 ≤ y0
      · by_cases q1 : x1 ≤ y1
        · by_cases q2 : x2 ≤ y2
          · have H4 := Lib.hid (show leL [x0, x1, x2] [y0, y1, y2] = true by simp [leL, q0, q1, q2])
            go_wp2
            go_quiet (fail)
            go_wp2
            go_ret
            exact ⟨ret_bool (by rw [H1.out, H4.out]), below_drewN hb2 _⟩
          · have H4 := Lib.hid (show leL [x0, x1, x2] [y0, y1, y2] = false by simp [leL, q2])
            go_wp2
            go_quiet (fail)
            go_wp2
            go_ret
            exact ⟨ret_bool (by rw [H1.out, H4.out]; exact decide_eq_false (by omega)), below_drewN hb2 _⟩
        · have H4 := Lib.hid (show leL [x0, x1, x2] [y0, y1, y2] = false by simp [leL, q1])
          have d1 : decide (x1 ≤ y1) = false := by simpa using q1
          go_wp2
          go_quiet (fail)
          go_wp2
          go_ret
          exact ⟨ret_bool (by rw [H1.out, H4.out]), below_drewN hb2 _⟩
      · have H4 := Lib.hid (show leL [x0, x1, x2] [y0, y1, y2] = false by simp [leL, q0])
        have d0 : decide (x0 ≤ y0) = false := by simpa using q0
        go_wp2
        go_quiet (fail)
        go_wp2
        go_ret
        exact ⟨ret_bool (by rw [H1.out, H4.out]), below_drewN hb2 _⟩
end Go.Proofs.Ytichnpjpldkceaa
