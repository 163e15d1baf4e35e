/- Contracts of GrossOf, OuterOf, DepthOf, IsLocked: the second text. -/
import Derived.Test.YtalciiajhlhecabAsk2
namespace Go.Proofs.Ytalciiajhlhecab
open Go.RowKit
set_option maxRecDepth 100000 in
set_option maxHeartbeats 1000000 in
theorem locked_spec (id : Int) (A : Option Addr) (ca : Nat) (l : List Th) (w : World) (hA : InK 6 thC w A l) (hn : l.length ≤ 1048576) :
    Calls Try.prog 41 #[.slice A l.length ca, .int .i64 id] w fun e w' => e = .returned (.bool (lckB l id)) ∧ Below w.heap.size w w' := by
  have HA := Lib.hid hA; clear hA
  have HT := Lib.hid (are_spec A ca l w HA.out hn)
  cases ht : thsB l with
  | false =>
    have HV := Lib.hid (show lckB l id = false by unfold lckB; rw [ask_bad id ht]; rfl)
    rw [ht] at HT
    clear ht
    go_enter Try.func41, Try.ntmps41
    go_wp2_with fail
    refine HT.out.mono ?_; rintro e w1 ⟨rfl, hb1⟩
    go_wp2
    go_ret
    exact ⟨ret_bool HV.out.symm, hb1⟩
  | true =>
    rw [ht] at HT
    have HL : Hid (∀ W, InK 6 thC W A l → Calls Try.prog 73 #[.slice A l.length ca, .int .i64 id] W fun e w' => e = .returned (.bool (lckB l id)) ∧ w' = W) := Lib.hid (fun W h => by
      rcases ask_cases l id with ⟨hf, ha⟩ | ⟨k, hk, hf, _, ⟨h2, _⟩ | ⟨_, ha⟩⟩
      · rw [show lckB l id = false by unfold lckB; rw [ha]; rfl]
        exact locked_miss id A ca l W h hn hf
      · rw [ht] at h2; cases h2
      · rw [show lckB l id = lkT l l[k] by unfold lckB; rw [ha]; rfl]
        exact locked_hit id k A ca l W h (ths_of ht) hk hf)
    generalize lckB l id = V at *
    clear ht
    go_enter Try.func41, Try.ntmps41
    go_wp2_with fail
    refine HT.out.mono ?_; rintro e w1 ⟨rfl, hb1⟩
    go_wp2_with fail
    refine (HL.out _ (HA.out.below hb1)).mono ?_; rintro e w2 ⟨rfl, rfl⟩
    go_wp2
    go_ret
    exact ⟨rfl, hb1⟩
set_option maxRecDepth 100000 in
set_option maxHeartbeats 1000000 in
theorem gross_miss (id : Int) (A : Option Addr) (ca : Nat) (l : List Th) (w : World) (hA : InK 6 thC w A l) (hn : l.length ≤ 1048576) (hf : fnd l id < 0) :
    Calls Try.prog 71 #[.slice A l.length ca, .int .i64 id, .int .i64 5] w fun e w' => e = .returned (.int .i64 0) ∧ Below w.heap.size w w' := by
  have HF := Lib.hid (find_same id A ca l w hA hn)
  obtain ⟨F, hF⟩ : ∃ F, F = fnd l id := ⟨_, rfl⟩
  rw [← hF] at HF hf
  clear hA hF
  go_enter Try.func71, Try.ntmps71
  go_wp2_with fail
  refine HF.out.mono ?_; rintro e w1 ⟨rfl, rfl⟩
  go_wp2
  go_ret
  exact ⟨rfl, Below.refl _ _⟩
set_option maxRecDepth 100000 in
set_option maxHeartbeats 1000000 in
theorem gross_spec (id : Int) (A : Option Addr) (ca : Nat) (l : List Th) (w : World) (hA : InK 6 thC w A l) (hn : l.length ≤ 1048576) :
    Calls Try.prog 37 #[.slice A l.length ca, .int .i64 id] w fun e w' => e = .returned (.int .i64 (grsB l id)) ∧ Below w.heap.size w w' := by
  have HA := Lib.hid hA; clear hA
  have HT := Lib.hid (are_spec A ca l w HA.out hn)
  cases ht : thsB l with
  | false =>
    have HV := Lib.hid (show grsB l id = 0 by unfold grsB; rw [ask_bad id ht]; rfl)
    rw [ht] at HT
    clear ht
    go_enter Try.func37, Try.ntmps37
    go_wp2_with fail
    refine HT.out.mono ?_; rintro e w1 ⟨rfl, hb1⟩
    go_wp2
    go_ret
    exact ⟨ret_int HV.out.symm, hb1⟩
  | true =>
    rw [ht] at HT
    have HL : Hid (∀ W, InK 6 thC W A l → Calls Try.prog 71 #[.slice A l.length ca, .int .i64 id, .int .i64 5] W fun e w' => e = .returned (.int .i64 (grsB l id)) ∧ Below W.heap.size W w') := Lib.hid (fun W h => by
      rcases ask_cases l id with ⟨hf, ha⟩ | ⟨k, hk, hf, hd, ⟨h2, _⟩ | ⟨_, ha⟩⟩
      · rw [show grsB l id = 0 by unfold grsB; rw [ha]; rfl]
        exact gross_miss id A ca l W h hn hf
      · rw [ht] at h2; cases h2
      · rw [show grsB l id = gr l 4 l[k] by unfold grsB; rw [ha]; rfl]
        have hT := ths_of ht
        have h0 := gross_l5_rec A ca l hT.len hT.lis hT.sha 4 5 (by omega) (by omega) (by omega) l[k] (List.getElem_mem hk) (by omega) W h
        rw [hd] at h0
        exact h0)
    generalize grsB l id = V at *
    clear ht
    go_enter Try.func37, Try.ntmps37
    go_wp2_with fail
    refine HT.out.mono ?_; rintro e w1 ⟨rfl, hb1⟩
    go_wp2_with fail
    refine (HL.out _ (HA.out.below hb1)).mono ?_; rintro e w2 ⟨rfl, hb2⟩
    go_wp2
    go_ret
    exact ⟨rfl, hb1.trans (hb2.mono hb1.size)⟩
set_option maxRecDepth 100000 in
set_option maxHeartbeats 1000000 in
theorem depth_spec (id : Int) (A : Option Addr) (ca : Nat) (l : List Th) (w : World) (hA : InK 6 thC w A l) (hn : l.length ≤ 1048576) :
    Calls Try.prog 40 #[.slice A l.length ca, .int .i64 id] w fun e w' => e = .returned (.int .i64 (depB l id)) ∧ Below w.heap.size w w' := by
  have HA := Lib.hid hA; clear hA
  have HT := Lib.hid (are_spec A ca l w HA.out hn)
  have HF := Lib.hid (fun W h => find_same id A ca l W h hn)
  cases ht : thsB l with
  | false =>
    have HV := Lib.hid (show depB l id = -1 by unfold depB; rw [ask_bad id ht]; rfl)
    rw [ht] at HT
    clear ht
    go_enter Try.func40, Try.ntmps40
    go_wp2_with fail
    refine HT.out.mono ?_; rintro e w1 ⟨rfl, hb1⟩
    go_wp2
    go_ret
    exact ⟨ret_int HV.out.symm, hb1⟩
  | true =>
    rw [ht] at HT
    have HC := Lib.hid (ask_cases l id)
    by_cases hf : fnd l id < 0
    · have HV := Lib.hid (show depB l id = -1 by unfold depB; rw [ask_miss hf]; rfl)
      obtain ⟨F, hF⟩ : ∃ F, F = fnd l id := ⟨_, rfl⟩
      rw [← hF] at HF hf
      clear ht hF HC
      go_enter Try.func40, Try.ntmps40
      go_wp2_with fail
      refine HT.out.mono ?_; rintro e w1 ⟨rfl, hb1⟩
      go_wp2_with fail
      refine (HF.out _ (HA.out.below hb1)).mono ?_; rintro e w2 ⟨rfl, rfl⟩
      go_wp2
      go_ret
      exact ⟨ret_int HV.out.symm, hb1⟩
    · have HD := Lib.hid (fun W h => depth_l5 id A ca l W h hn)
      have HV := Lib.hid (show depB l id = (sdp l 5 (fnd l id) : Int) by
        rcases HC.out with ⟨h, _⟩ | ⟨k, hk, he, _, ⟨h2, _⟩ | ⟨_, ha⟩⟩
        · exact absurd h hf
        · rw [ht] at h2; cases h2
        · unfold depB dep; rw [ha, he, sdp_aro (ths_of ht).lis 5 k hk]; rfl)
      generalize (sdp l 5 (fnd l id) : Int) = S at *
      have hfd : decide (fnd l id < 0) = false := decide_eq_false hf
      obtain ⟨F, hF⟩ : ∃ F, F = fnd l id := ⟨_, rfl⟩
      rw [← hF] at HF hf hfd
      clear ht hF HC hf
      go_enter Try.func40, Try.ntmps40
      go_wp2_with fail
      refine HT.out.mono ?_; rintro e w1 ⟨rfl, hb1⟩
      go_wp2_with fail
      refine (HF.out _ (HA.out.below hb1)).mono ?_; rintro e w2 ⟨rfl, rfl⟩
      go_wp2_with fail
      refine (HD.out _ (HA.out.below hb1)).mono ?_; rintro e w3 ⟨rfl, rfl⟩
      go_wp2
      go_ret
      exact ⟨ret_int HV.out.symm, hb1⟩
set_option maxRecDepth 100000 in
set_option maxHeartbeats 1000000 in
theorem outer_spec (id : Int) (A : Option Addr) (ca : Nat) (l : List Th) (w : World) (hA : InK 6 thC w A l) (hn : l.length ≤ 1048576) :
    Calls Try.prog 39 #[.slice A l.length ca, .int .i64 id] w fun e w' => e = .returned (.int .i64 (outB l id)) ∧ Below w.heap.size w w' := by
  have HA := Lib.hid hA; clear hA
  have HT := Lib.hid (fun W h => are_spec A ca l W h hn)
  have HF := Lib.hid (fun id => find_same id A ca l w HA.out hn)
  have HF0 := Lib.hid (HF.out id)
  have HFW := Lib.hid (fun id W h => find_same id A ca l W h hn)
  rcases ask_cases l id with ⟨hf, ha⟩ | ⟨k0, hk0, hf, hd, ⟨ht, ha⟩ | ⟨ht, ha⟩⟩
  · have HV := Lib.hid (show outB l id = 0 by unfold outB; rw [ha]; rfl)
    obtain ⟨F, hF⟩ : ∃ F, F = fnd l id := ⟨_, rfl⟩
    rw [← hF] at HF0 hf
    clear ha hF
    cases ht : thsB l with
    | false =>
      rw [ht] at HT; clear ht
      go_enter Try.func39, Try.ntmps39
      go_wp2_with fail
      refine HF0.out.mono ?_; rintro e w1 ⟨rfl, rfl⟩
      go_wp2_with fail
      refine (HT.out _ HA.out).mono ?_; rintro e w2 ⟨rfl, hb2⟩
      go_wp2
      go_ret
      exact ⟨ret_int HV.out.symm, hb2⟩
    | true =>
      rw [ht] at HT; clear ht
      go_enter Try.func39, Try.ntmps39
      go_wp2_with fail
      refine HF0.out.mono ?_; rintro e w1 ⟨rfl, rfl⟩
      go_wp2_with fail
      refine (HT.out _ HA.out).mono ?_; rintro e w2 ⟨rfl, hb2⟩
      go_wp2
      go_ret
      exact ⟨ret_int HV.out.symm, hb2⟩
  · have HV := Lib.hid (show outB l id = 0 by unfold outB; rw [ha]; rfl)
    rw [ht] at HT
    clear ha ht hd hf
    go_enter Try.func39, Try.ntmps39
    go_wp2_with fail
    refine HF0.out.mono ?_; rintro e w1 ⟨rfl, rfl⟩
    go_wp2_with fail
    refine (HT.out _ HA.out).mono ?_; rintro e w2 ⟨rfl, hb2⟩
    go_wp2
    go_ret
    exact ⟨ret_int HV.out.symm, hb2⟩
  · have HV := Lib.hid (show outB l id = lastB l l[k0] by unfold outB; rw [ha]; rfl)
    have HTH := Lib.hid (ths_of ht)
    have h5 : dep l l[k0] ≤ 5 := aro_len l 5 _
    rw [ht] at HT
    rw [hf] at HF0
    have hk0d : decide ((k0 : Int) < 0) = false := decide_eq_false (by omega)
    clear ha ht hd hf
    go_enter Try.func39, Try.ntmps39
    go_wp2_with fail
    refine HF0.out.mono ?_; rintro e w1 ⟨rfl, rfl⟩
    go_wp2_with fail
    refine (HT.out _ HA.out).mono ?_; rintro e w2 ⟨rfl, hb2⟩
    have HB2 := Lib.hid hb2; clear hb2
    have HA2 := Lib.hid (HA.out.below HB2.out)
    obtain ⟨R, hR⟩ : ∃ R, R = outB l id := ⟨_, rfl⟩
    have HR := Lib.hid (show lastB l l[k0] = R by rw [hR, HV.out])
    have HRE := Lib.hid hR
    clear hR HV HA HF HF0 HT
    go_wp2
    go_loopg [5] 6 (fun gg a wr => ∃ (k : Nat) (hk : k < l.length), a = .int .i64 k ∧ wr = w2 ∧ Hid (lastB l l[k] = R) ∧ dep l l[k] < gg)
    case atStart => exact ⟨k0, hk0, rfl, rfl, HR, by omega⟩
    case round =>
      clear HR h5 hk0d
      obtain ⟨k, hk, rfl, rfl, HR, hg⟩ := hrel
      have hki : (k : Int) < (l.length : Int) := by omega
      obtain ⟨g, rfl, hgl, c0, z1, z2, c3, z4, z5⟩ := HA2.out.th k hk
      clear z1 z2 z4 z5
      have hmem := List.getElem_mem hk
      by_cases hn0 : l[k].n = 0
      · have HZ := Lib.hid (show R = l[k].d by rw [← HR.out, lastB_top hn0])
        have hq : (l[k].n != 0) = false := by simpa using hn0
        clear hn0 HR hg hmem
        obtain ⟨y, hy⟩ : ∃ y, y = l[k].n := ⟨_, rfl⟩
        rw [← hy] at c3 hq
        obtain ⟨z, hz⟩ : ∃ z, z = l[k].d := ⟨_, rfl⟩
        rw [← hz] at c0 HZ
        clear hy hz
        go_wp2
        go_ret
        exact ⟨ret_int (by rw [← HRE.out, HZ.out]), HB2.out⟩
      · have hq : (l[k].n != 0) = true := by simpa using hn0
        obtain ⟨m, hm, hfm, _, _⟩ := HTH.out.lis.pin l[k] hmem hn0
        have HE := Lib.hid (show lastB l l[m] = R by rw [← HR.out, lastB_up HTH.out hmem hn0, par_at hm hfm])
        have hd := dep5 HTH.out hmem hn0
        rw [par_at hm hfm] at hd
        have HFk := Lib.hid (HFW.out l[k].n _ HA2.out)
        rw [hfm] at HFk
        have HDm := Lib.hid (show dep l l[m] < dep l l[m] + 1 ∧ dep l l[m] + 1 < gk by omega)
        clear hn0 HR hg hmem hfm hd
        obtain ⟨y, hy⟩ : ∃ y, y = l[k].n := ⟨_, rfl⟩
        rw [← hy] at c3 hq HFk
        clear hy c0
        go_wp2_with fail
        refine HFk.out.mono ?_; rintro e w3 ⟨rfl, rfl⟩
        go_wp2_with fail
        go_roundg (dep l l[m] + 1)
        case measure => exact HDm.out.2
        case rel => exact ⟨m, hm, rfl, rfl, HE, HDm.out.1⟩
end Go.Proofs.Ytalciiajhlhecab
