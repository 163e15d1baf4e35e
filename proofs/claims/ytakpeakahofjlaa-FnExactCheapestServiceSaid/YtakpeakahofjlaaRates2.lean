/- Contracts of the second text of AreRates. -/
import Derived.Test.YtakpeakahofjlaaRates
namespace Go.Proofs.Ytakpeakahofjlaa
open Go.RowKit
set_option maxRecDepth 100000 in
set_option maxHeartbeats 8000000 in
theorem are_rates_spec (A : Option Addr) (cap : Nat) (l : List Rt) (n : Int) (w : World) (hA : InK 4 rC w A l) (hn : l.length ≤ 1048576) :
    Calls Try.prog 53 #[.slice A l.length cap, .int .i64 n] w fun e w' => e = .returned (.bool (areRB l n)) ∧ Below w.heap.size w w' := by
  have HA := Lib.hid hA; clear hA
  go_enter Try.func53, Try.ntmps53
  go_wp2
  go_loopw [5] (fun i wr => ∃ k : Nat, k ≤ l.length ∧ i = .int .i64 k ∧ Hid (∀ j, j < k → rStep n l j = true) ∧ Below w.heap.size w wr) (fun i _ => l.length - (intOf i).toNat)
  case atStart => exact ⟨0, Nat.zero_le _, rfl, Lib.hid (fun j h => by omega), Below.refl _ _⟩
  case round =>
    obtain ⟨k, hk, rfl, hd, hb⟩ := hrel
    by_cases hlt : (k : Int) < (l.length : Int)
    · have hkn : k < l.length := by omega
      have hbz := hb.size
      obtain ⟨g, rfl, hg, c0, c1, c2, c3⟩ := (HA.out.below hb).rate k hkn
      have HL := Lib.hid (show ∀ j (hj : j < l.length), wr.cell? ⟨g, j * 4, none⟩ = some (.int .i64 l[j].z) ∧ wr.cell? ⟨g, j * 4 + 1, none⟩ = some (.int .i64 l[j].s) ∧ wr.cell? ⟨g, j * 4 + 2, none⟩ = some (.int .i64 l[j].l) ∧ wr.cell? ⟨g, j * 4 + 3, none⟩ = some (.int .i64 l[j].p) from fun j hj => by
        obtain ⟨g', e, _, m0, m1, m2, m3⟩ := (HA.out.below hb).rate j hj
        cases e; exact ⟨m0, m1, m2, m3⟩)
      obtain ⟨z, hz⟩ : ∃ z, z = l[k].z := ⟨_, rfl⟩
      obtain ⟨s, hs⟩ : ∃ s, s = l[k].s := ⟨_, rfl⟩
      obtain ⟨q, hq⟩ : ∃ q, q = l[k].l := ⟨_, rfl⟩
      obtain ⟨p, hp⟩ : ∃ p, p = l[k].p := ⟨_, rfl⟩
      have HB0 := Lib.hid (show rOk l[k] n = rateB z s q p n by rw [hz, hs, hq, hp]; rfl)
      have HP := Lib.hid (And.intro hz (And.intro hs (And.intro hq hp)))
      rw [← hz] at c0; rw [← hs] at c1; rw [← hq] at c2; rw [← hp] at c3
      clear hz hs hq hp
      have HF0 := far_cell hg c0; have HF1 := far_cell hg c1; have HF2 := far_cell hg c2; have HF3 := far_cell hg c3
      clear c0 c1 c2 c3
      have HI1 := Lib.hid (fun W => in_any s 1 3 W)
      have HI2 := Lib.hid (fun W => in_any q 1 1000000000 W)
      have HI3 := Lib.hid (fun W => in_any p 0 100000 W)
      by_cases a1 : z < 0
      · have a1b : decide (z < 0) = true := by simpa using a1
        have a1c : ¬ 0 ≤ z := by omega
        have HN := Lib.hid (areR_no hkn (rStep_bad hkn (HB0.out.trans (show rateB z s q p n = false by simp [rateB, a1c]))))
        go_wp2_with fail
        refine wp_region_far (by kernel_rfl) (by kernel_rfl) ?_
        repeat (any_goals (first | go_big_quiet_step (((first | (go_at_call 79; with_reducible exact call_far_same (HI1.out _)) | (go_at_call 79; with_reducible exact call_far_same (HI2.out _)) | (go_at_call 79; with_reducible exact call_far_same (HI3.out _))))) | quiet_step (((first | (go_at_call 79; with_reducible exact call_far_same (HI1.out _)) | (go_at_call 79; with_reducible exact call_far_same (HI2.out _)) | (go_at_call 79; with_reducible exact call_far_same (HI3.out _)))))))
        refine wpQuiet_nil ?_; intro w1 hw1
        have hb1 : Below wr.heap.size wr w1 := by obtain ⟨x, rfl⟩ := hw1; exact below_far wr x
        clear hw1
        go_wp2
        go_ret
        exact ⟨ret_bool HN.out.symm, hb.trans (hb1.mono hbz)⟩
      have a1b : decide (z < 0) = false := by simp; omega
      have a1c : 0 ≤ z := by omega
      by_cases a2 : n ≤ z
      · have a2b : decide (n ≤ z) = true := by simpa using a2
        have a2c : ¬ z < n := by omega
        have HN := Lib.hid (areR_no hkn (rStep_bad hkn (HB0.out.trans (show rateB z s q p n = false by simp [rateB, a2c]))))
        go_wp2_with fail
        refine wp_region_far (by kernel_rfl) (by kernel_rfl) ?_
        repeat (any_goals (first | go_big_quiet_step (((first | (go_at_call 79; with_reducible exact call_far_same (HI1.out _)) | (go_at_call 79; with_reducible exact call_far_same (HI2.out _)) | (go_at_call 79; with_reducible exact call_far_same (HI3.out _))))) | quiet_step (((first | (go_at_call 79; with_reducible exact call_far_same (HI1.out _)) | (go_at_call 79; with_reducible exact call_far_same (HI2.out _)) | (go_at_call 79; with_reducible exact call_far_same (HI3.out _)))))))
        refine wpQuiet_nil ?_; intro w1 hw1
        have hb1 : Below wr.heap.size wr w1 := by obtain ⟨x, rfl⟩ := hw1; exact below_far wr x
        clear hw1
        go_wp2
        go_ret
        exact ⟨ret_bool HN.out.symm, hb.trans (hb1.mono hbz)⟩
      have a2b : decide (n ≤ z) = false := by simp; omega
      have a2c : z < n := by omega
      cases b1 : inB s 1 3 with
      | false =>
        rw [b1] at HI1
        have HN := Lib.hid (areR_no hkn (rStep_bad hkn (HB0.out.trans (show rateB z s q p n = false by simp [rateB, b1]))))
        go_wp2_with fail
        refine wp_region_far (by kernel_rfl) (by kernel_rfl) ?_
        repeat (any_goals (first | go_big_quiet_step (((first | (go_at_call 79; with_reducible exact call_far_same (HI1.out _)) | (go_at_call 79; with_reducible exact call_far_same (HI2.out _)) | (go_at_call 79; with_reducible exact call_far_same (HI3.out _))))) | quiet_step (((first | (go_at_call 79; with_reducible exact call_far_same (HI1.out _)) | (go_at_call 79; with_reducible exact call_far_same (HI2.out _)) | (go_at_call 79; with_reducible exact call_far_same (HI3.out _)))))))
        refine wpQuiet_nil ?_; intro w1 hw1
        have hb1 : Below wr.heap.size wr w1 := by obtain ⟨x, rfl⟩ := hw1; exact below_far wr x
        clear hw1
        go_wp2
        go_ret
        exact ⟨ret_bool HN.out.symm, hb.trans (hb1.mono hbz)⟩
      | true =>
      rw [b1] at HI1
      cases b2 : inB q 1 1000000000 with
      | false =>
        rw [b2] at HI2
        have HN := Lib.hid (areR_no hkn (rStep_bad hkn (HB0.out.trans (show rateB z s q p n = false by simp [rateB, b2]))))
        go_wp2_with fail
        refine wp_region_far (by kernel_rfl) (by kernel_rfl) ?_
        repeat (any_goals (first | go_big_quiet_step (((first | (go_at_call 79; with_reducible exact call_far_same (HI1.out _)) | (go_at_call 79; with_reducible exact call_far_same (HI2.out _)) | (go_at_call 79; with_reducible exact call_far_same (HI3.out _))))) | quiet_step (((first | (go_at_call 79; with_reducible exact call_far_same (HI1.out _)) | (go_at_call 79; with_reducible exact call_far_same (HI2.out _)) | (go_at_call 79; with_reducible exact call_far_same (HI3.out _)))))))
        refine wpQuiet_nil ?_; intro w1 hw1
        have hb1 : Below wr.heap.size wr w1 := by obtain ⟨x, rfl⟩ := hw1; exact below_far wr x
        clear hw1
        go_wp2
        go_ret
        exact ⟨ret_bool HN.out.symm, hb.trans (hb1.mono hbz)⟩
      | true =>
      rw [b2] at HI2
      cases b3 : inB p 0 100000 with
      | false =>
        rw [b3] at HI3
        have HN := Lib.hid (areR_no hkn (rStep_bad hkn (HB0.out.trans (show rateB z s q p n = false by simp [rateB, b3]))))
        go_wp2_with fail
        refine wp_region_far (by kernel_rfl) (by kernel_rfl) ?_
        repeat (any_goals (first | go_big_quiet_step (((first | (go_at_call 79; with_reducible exact call_far_same (HI1.out _)) | (go_at_call 79; with_reducible exact call_far_same (HI2.out _)) | (go_at_call 79; with_reducible exact call_far_same (HI3.out _))))) | quiet_step (((first | (go_at_call 79; with_reducible exact call_far_same (HI1.out _)) | (go_at_call 79; with_reducible exact call_far_same (HI2.out _)) | (go_at_call 79; with_reducible exact call_far_same (HI3.out _)))))))
        refine wpQuiet_nil ?_; intro w1 hw1
        have hb1 : Below wr.heap.size wr w1 := by obtain ⟨x, rfl⟩ := hw1; exact below_far wr x
        clear hw1
        go_wp2
        go_ret
        exact ⟨ret_bool HN.out.symm, hb.trans (hb1.mono hbz)⟩
      | true =>
      rw [b3] at HI3
      have HT := Lib.hid (HB0.out.trans (show rateB z s q p n = true by simp [rateB, a1c, a2c, b1, b2, b3]))
      by_cases hk00 : k = 0
      · subst hk00
        have HN := Lib.hid (rStep_zero hkn HT.out)
        rw [show ((0 : Nat) : Int) = 0 from rfl]
        go_wp2_with fail
        refine wp_region_far (by kernel_rfl) (by kernel_rfl) ?_
        repeat (any_goals (first | go_big_quiet_step (((first | (go_at_call 79; with_reducible exact call_far_same (HI1.out _)) | (go_at_call 79; with_reducible exact call_far_same (HI2.out _)) | (go_at_call 79; with_reducible exact call_far_same (HI3.out _))))) | quiet_step (((first | (go_at_call 79; with_reducible exact call_far_same (HI1.out _)) | (go_at_call 79; with_reducible exact call_far_same (HI2.out _)) | (go_at_call 79; with_reducible exact call_far_same (HI3.out _)))))))
        refine wpQuiet_nil ?_; intro w1 hw1
        have hb1 : Below wr.heap.size wr w1 := by obtain ⟨x, rfl⟩ := hw1; exact below_far wr x
        clear hw1
        go_wp2
        go_roundw
        case rel => exact ⟨1, by omega, by go_num, Lib.hid (fun j hj => by obtain rfl : j = 0 := (by omega); exact HN.out), hb.trans (hb1.mono hbz)⟩
        case measure => simp [intOf]; omega
      · obtain ⟨k', hkk⟩ : ∃ k', k = k' + 1 := ⟨k - 1, by omega⟩
        have HKK := Lib.hid hkk
        obtain ⟨m0, m1, m2, m3⟩ := HL.out k' (by omega)
        have HST := Lib.hid (show rStep n l k = rAft (l[k']'(by omega)) l[k] by subst hkk; exact rStep_succ hkn HT.out)
        obtain ⟨z', hz⟩ : ∃ z', z' = (l[k']'(by omega)).z := ⟨_, rfl⟩
        obtain ⟨s', hs⟩ : ∃ s', s' = (l[k']'(by omega)).s := ⟨_, rfl⟩
        obtain ⟨q', hq⟩ : ∃ q', q' = (l[k']'(by omega)).l := ⟨_, rfl⟩
        obtain ⟨p', hp⟩ : ∃ p', p' = (l[k']'(by omega)).p := ⟨_, rfl⟩
        have HE := Lib.hid (show rStep n l k = aftB z' s' q' p' z s q p by
          rw [HST.out]
          rw [HP.out.1, HP.out.2.1, HP.out.2.2.1, HP.out.2.2.2, hz, hs, hq, hp]; rfl)
        rw [← hz] at m0; rw [← hs] at m1; rw [← hq] at m2; rw [← hp] at m3
        clear hz hs hq hp
        have hk0 : (0 : Int) < (k : Int) := by omega
        have hk0a : decide ((0 : Int) < (k : Int)) = true := by simp; omega
        have hk0b : decide (0 < k) = true := by simp; omega
        have hki : (k : Int) - 1 = (k' : Int) := by omega
        clear HST
        clear hkk hk00
        have HG0 := far_cell hg m0; have HG1 := far_cell hg m1; have HG2 := far_cell hg m2; have HG3 := far_cell hg m3
        clear m0 m1 m2 m3
        have HJ := Lib.hid (fun W => aft_spec z' s' q' p' z s q p W)
        cases ha : aftB z' s' q' p' z s q p with
        | true =>
          rw [ha] at HJ HE; clear ha
          go_wp2_with fail
          refine wp_region_far (by kernel_rfl) (by kernel_rfl) ?_
          repeat (any_goals (first | go_big_quiet_step (((first | (go_at_call 79; with_reducible exact call_far_same (HI1.out _)) | (go_at_call 79; with_reducible exact call_far_same (HI2.out _)) | (go_at_call 79; with_reducible exact call_far_same (HI3.out _)) | (go_at_call 86; with_reducible exact call_far (HJ.out _))))) | quiet_step (((first | (go_at_call 79; with_reducible exact call_far_same (HI1.out _)) | (go_at_call 79; with_reducible exact call_far_same (HI2.out _)) | (go_at_call 79; with_reducible exact call_far_same (HI3.out _)) | (go_at_call 86; with_reducible exact call_far (HJ.out _)))))))
          refine wpQuiet_nil ?_; intro w1 hw1
          have hb1 : Below wr.heap.size wr w1 := by obtain ⟨x, rfl⟩ := hw1; exact below_far wr x
          clear hw1
          go_wp2
          go_roundw
          case rel => exact ⟨k + 1, by omega, by go_num, Lib.hid (fun j hj => by
            by_cases e : j = k
            · subst e; exact HE.out
            · exact hd.out j (by omega)), hb.trans (hb1.mono hbz)⟩
          case measure => simp [intOf]; omega
        | false =>
          rw [ha] at HJ HE; clear ha
          have HN := Lib.hid (areR_no hkn HE.out)
          go_wp2_with fail
          refine wp_region_far (by kernel_rfl) (by kernel_rfl) ?_
          repeat (any_goals (first | go_big_quiet_step (((first | (go_at_call 79; with_reducible exact call_far_same (HI1.out _)) | (go_at_call 79; with_reducible exact call_far_same (HI2.out _)) | (go_at_call 79; with_reducible exact call_far_same (HI3.out _)) | (go_at_call 86; with_reducible exact call_far (HJ.out _))))) | quiet_step (((first | (go_at_call 79; with_reducible exact call_far_same (HI1.out _)) | (go_at_call 79; with_reducible exact call_far_same (HI2.out _)) | (go_at_call 79; with_reducible exact call_far_same (HI3.out _)) | (go_at_call 86; with_reducible exact call_far (HJ.out _)))))))
          refine wpQuiet_nil ?_; intro w1 hw1
          have hb1 : Below wr.heap.size wr w1 := by obtain ⟨x, rfl⟩ := hw1; exact below_far wr x
          clear hw1
          go_wp2
          go_ret
          exact ⟨ret_bool HN.out.symm, hb.trans (hb1.mono hbz)⟩
    · obtain rfl : k = l.length := by omega
      by_cases h8 : l.length ≤ 24
      · have hq : decide ((l.length : Int) ≤ 24) = true := by simp; omega
        have HY := Lib.hid (areR_yes h8 hd.out)
        go_wp2
        go_ret
        exact ⟨ret_bool (by rw [HY.out]), hb⟩
      · have hq : decide ((l.length : Int) ≤ 24) = false := by simp; omega
        have HY := Lib.hid (areR_long (n := n) (show 24 < l.length by omega))
        go_wp2
        go_ret
        exact ⟨ret_bool (by rw [HY.out]), hb⟩
end Go.Proofs.Ytakpeakahofjlaa
