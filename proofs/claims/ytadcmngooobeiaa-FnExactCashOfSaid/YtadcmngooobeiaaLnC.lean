/- CashOf, both texts. Written by hand. -/
import Derived.Test.YtadcmngooobeiaaLnAI
import Derived.Test.YtadcmngooobeiaaLnAS
namespace Go.Proofs.Ytadcmngooobeiaa
open Go.RowKit
def cashB (l : List Ln) : Int := if linesB l then foldA cashV l else 0
theorem cashB_no {l : List Ln} (h : linesB l = false) : cashB l = 0 := by unfold cashB; rw [h]; rfl
theorem cashB_yes {l : List Ln} (h : linesB l = true) : cashB l = foldA cashV l := by unfold cashB; rw [h]; rfl
set_option maxRecDepth 100000 in
theorem cash_says : SaysN 71 #[] cashV (fun _ => True) := by
  intro W x _
  obtain ⟨xo, xk, xa, xt⟩ := x
  have HB := Lib.hid ((Below.refl W.heap.size W).alloc (Nat.le_refl _) (.cells #[.int .i64 xo, .int .i64 xk, .int .i64 xa, .int .i64 xt] 25))
  show Calls Try.prog 71 #[.agg #[.int .i64 xo, .int .i64 xk, .int .i64 xa, .int .i64 xt]] W _
  by_cases k2 : xk = 2
  · have HV := Lib.hid (show cashV ⟨xo, xk, xa, xt⟩ = xa from if_pos k2)
    generalize cashV ⟨xo, xk, xa, xt⟩ = V at *
    have e2 : (xk == 2) = true := by simp [k2]
    clear k2
    go_enter Try.func71, Try.ntmps71
    go_wp2
    go_ret
    exact ⟨ret_int HV.out.symm, HB.out⟩
  · by_cases k3 : xk = 3
    · have HV := Lib.hid (show cashV ⟨xo, xk, xa, xt⟩ = wrap64 (-xa) from (if_neg k2).trans (if_pos k3))
      generalize cashV ⟨xo, xk, xa, xt⟩ = V at *
      have e2 : (xk == 2) = false := by simp [k2]
      have e3 : (xk == 3) = true := by simp [k3]
      clear k2 k3
      go_enter Try.func71, Try.ntmps71
      go_wp2
      go_ret
      exact ⟨ret_int HV.out.symm, HB.out⟩
    · have HV := Lib.hid (show cashV ⟨xo, xk, xa, xt⟩ = 0 from (if_neg k2).trans (if_neg k3))
      generalize cashV ⟨xo, xk, xa, xt⟩ = V at *
      have e2 : (xk == 2) = false := by simp [k2]
      have e3 : (xk == 3) = false := by simp [k3]
      clear k2 k3
      go_enter Try.func71, Try.ntmps71
      go_wp2
      go_ret
      exact ⟨ret_int HV.out.symm, HB.out⟩
set_option maxRecDepth 100000 in
set_option maxHeartbeats 1000000 in
theorem cash_impl (A : Option Addr) (ca : Nat) (l : List Ln) (w : World) (hA : InK 4 lnC w A l) (hc : l.length ≤ ca) (hn : l.length ≤ 1048576) :
    Calls Try.prog 46 #[.slice A l.length ca] w fun e w' => e = .returned (.int .i64 (cashB l)) ∧ Below w.heap.size w w' := by
  have eg : ∀ args w, (callFunc 71 args).run Try.prog w = .ok (.enter 71 args) w := enters_of Try.func71 (by kernel_rfl) rfl
  have HF := Lib.hid (fun W (h : InK 4 lnC W A l) => fold_impl cashV 71 #[] (fun _ => True) (fun _ _ _ _ => trivial) eg A ca l W h hn cash_says trivial)
  have HL := Lib.hid (lines_impl A ca l w hA hc hn)
  clear eg
  cases q : linesB l with
  | false =>
    rw [q] at HL
    have HV := Lib.hid (cashB_no q)
    generalize cashB l = V at *
    clear q hA HF
    go_enter Try.func46, Try.ntmps46
    go_wp2_with fail
    refine HL.out.mono ?_; rintro e w1 ⟨rfl, hb⟩
    have HB := Lib.hid hb; clear hb
    go_wp2
    go_ret
    exact ⟨ret_int HV.out.symm, HB.out⟩
  | true =>
    rw [q] at HL
    have HV := Lib.hid (cashB_yes q)
    generalize cashB l = V at *
    generalize foldA cashV l = U at *
    have HA := Lib.hid hA; clear hA q
    go_enter Try.func46, Try.ntmps46
    go_wp2_with fail
    refine HL.out.mono ?_; rintro e w1 ⟨rfl, hb⟩
    replace HA := Lib.hid (HA.out.below hb)
    have HB := Lib.hid hb; clear hb
    go_wp2_with fail
    refine (HF.out w1 HA.out).mono ?_; rintro e w2 ⟨rfl, hb⟩
    replace HB := Lib.hid (HB.out.trans (hb.mono HB.out.size)); clear hb
    go_wp2
    go_ret
    exact ⟨ret_int HV.out.symm, HB.out⟩
set_option maxRecDepth 100000 in
set_option maxHeartbeats 2000000 in
theorem cash_spec (A : Option Addr) (ca : Nat) (l : List Ln) (w : World) (hA : InK 4 lnC w A l) (hc : l.length ≤ ca) (hn : l.length ≤ 1048576) :
    Calls Try.prog 45 #[.slice A l.length ca] w fun e w' => e = .returned (.int .i64 (cashB l)) ∧ Below w.heap.size w w' := by
  have HL := Lib.hid (fun W (h : InK 4 lnC W A l) => lines_spec A ca l W h hc hn)
  have HA := Lib.hid hA; clear hA hc
  cases q : linesB l with
  | false =>
    rw [q] at HL
    have HV := Lib.hid (cashB_no q)
    generalize cashB l = V at *
    have h0 : 0 < l.length := by
      rcases Nat.eq_zero_or_pos l.length with h | h
      · have : linesB l = true := linesB_iff.2 ⟨by omega, fun i hi => by omega⟩
        rw [q] at this; cases this
      · exact h
    have h0i : (0 : Int) < (l.length : Int) := by omega
    clear q
    go_enter Try.func45, Try.ntmps45
    go_wp2
    go_loopw [3, 4] (fun n i wr => n = .int .i64 0 ∧ i = .int .i64 0 ∧ wr = w) (fun _ _ _ => 0)
    case atStart => exact ⟨rfl, rfl, rfl⟩
    case round =>
      obtain ⟨rfl, rfl, rfl⟩ := hrel
      go_wp2_with fail
      refine (HL.out wr HA.out).mono ?_; rintro e w1 ⟨rfl, hb⟩
      have HB := Lib.hid hb; clear hb
      go_wp2
      go_ret
      exact ⟨ret_int HV.out.symm, HB.out⟩
  | true =>
    rw [q] at HL
    have HV := Lib.hid ((cashB_yes q).trans foldN_all.symm)
    generalize cashB l = V at *
    have HN := Lib.hid (fun j (h : j < l.length) => foldN_next (f := cashV) h)
    have HS := Lib.hid (fun j (h : j < l.length) e => foldN_skip (f := cashV) h e)
    have HVL := Lib.hid (fun j (h : j < l.length) => lineB_iff.1 ((linesB_valid q).2 _ (List.getElem_mem h)))
    clear q
    go_enter Try.func45, Try.ntmps45
    go_wp2
    go_loopw [3, 4] (fun n i wr => ∃ j : Nat, j ≤ l.length ∧ i = .int .i64 j ∧ n = .int .i64 (foldN cashV l j) ∧ Hid (Below w.heap.size w wr)) (fun _ i _ => l.length - (intOf i).toNat)
    case atStart => exact ⟨0, Nat.zero_le _, rfl, rfl, Lib.hid (Below.refl _ _)⟩
    case round =>
      obtain ⟨j, hj, rfl, rfl, hbw⟩ := hrel
      by_cases hlt : (j : Int) < (l.length : Int)
      · have hjl : j < l.length := by omega
        have HNj := Lib.hid (HN.out j hjl); have HSj := Lib.hid (HS.out j hjl); have HVj := Lib.hid (HVL.out j hjl)
        obtain ⟨N, hN⟩ : ∃ N, N = foldN cashV l j := ⟨_, rfl⟩
        rw [← hN] at HNj HSj ⊢
        clear hN
        have hAw := HA.out.below hbw.out
        go_wp2_with fail
        refine (HL.out wr hAw).mono ?_; rintro e w1 ⟨rfl, hb⟩
        have HB1 := Lib.hid (hbw.out.trans (hb.mono hbw.out.size))
        obtain ⟨a, rfl, ha, c0, c1, c2, c3⟩ := (hAw.below hb).ln j hjl
        clear hAw hb
        generalize l[j] = y at *
        obtain ⟨yo, yk, ya, yt⟩ := y
        dsimp only at c0 c1 c2 c3
        by_cases k2 : yk = 2
        · have HVN := Lib.hid (HNj.out.trans (show wrap64 (N + cashV ⟨yo, yk, ya, yt⟩) = wrap64 (N + ya) by rw [show cashV ⟨yo, yk, ya, yt⟩ = ya from if_pos k2]))
          have e2 : (yk == 2) = true := by simp [k2]
          clear HNj HSj k2
          go_wp2
          go_roundw
          case rel => exact ⟨j + 1, by omega, by go_num, by rw [HVN.out], HB1⟩
          case measure => simp [intOf]; omega
        · by_cases k3 : yk = 3
          · have hab := HVj.out.2.2.1
            have HVN := Lib.hid (HNj.out.trans (show wrap64 (N + cashV ⟨yo, yk, ya, yt⟩) = wrap64 (N - ya) by rw [show cashV ⟨yo, yk, ya, yt⟩ = wrap64 (-ya) from (if_neg k2).trans (if_pos k3), wrap_id (x := -ya) (by dsimp only at hab; omega)]; rfl))
            have e2 : (yk == 2) = false := by simp [k2]
            have e3 : (yk == 3) = true := by simp [k3]
            clear HNj HSj k2 k3 hab
            go_wp2
            go_roundw
            case rel => exact ⟨j + 1, by omega, by go_num, by rw [HVN.out], HB1⟩
            case measure => simp [intOf]; omega
          · have HVN := Lib.hid (HSj.out ((if_neg k2).trans (if_neg k3)))
            have e2 : (yk == 2) = false := by simp [k2]
            have e3 : (yk == 3) = false := by simp [k3]
            clear HNj HSj k2 k3
            go_wp2
            go_roundw
            case rel => exact ⟨j + 1, by omega, by go_num, by rw [HVN.out], HB1⟩
            case measure => simp [intOf]; omega
      · obtain rfl : j = l.length := by omega
        go_wp2
        go_ret
        exact ⟨by rw [HV.out]; rfl, hbw.out⟩
end Go.Proofs.Ytadcmngooobeiaa
