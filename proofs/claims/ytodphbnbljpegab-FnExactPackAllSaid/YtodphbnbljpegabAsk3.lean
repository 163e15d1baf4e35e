/- Contracts of GrossOf, OuterOf, DepthOf, IsLocked: the second text. -/
import Derived.Test.YtodphbnbljpegabAsk2
namespace Go.Proofs.Ytodphbnbljpegab
open Go.RowKit
set_option maxRecDepth 100000 in
set_option maxHeartbeats 1000000 in
theorem gross_miss (id : Int) (A : Option Addr) (ca : Nat) (l : List Th) (w : World) (hA : InK 6 thC w A l) (hn : l.length ≤ 1048576) (hf : fnd l id < 0) :
    Calls Try.prog 171 #[.slice A l.length ca, .int .i64 id, .int .i64 5] w fun e w' => e = .returned (.int .i64 0) ∧ Below w.heap.size w w' := by
  have HF := Lib.hid (find_same id A ca l w hA hn)
  obtain ⟨F, hF⟩ : ∃ F, F = fnd l id := ⟨_, rfl⟩
  rw [← hF] at HF hf
  clear hA hF
  go_enter Try.func171, Try.ntmps171
  go_wp2_with fail
  refine HF.out.mono ?_; rintro e w1 ⟨rfl, rfl⟩
  go_wp2
  go_ret
  exact ⟨rfl, Below.refl _ _⟩
set_option maxRecDepth 100000 in
set_option maxHeartbeats 1000000 in
theorem gross_spec (id : Int) (A : Option Addr) (ca : Nat) (l : List Th) (w : World) (hA : InK 6 thC w A l) (hn : l.length ≤ 1048576) :
    Calls Try.prog 120 #[.slice A l.length ca, .int .i64 id] w fun e w' => e = .returned (.int .i64 (grsB l id)) ∧ Below w.heap.size w w' := by
  have HA := Lib.hid hA; clear hA
  have HT := Lib.hid (are_spec A ca l w HA.out hn)
  cases ht : thsB l with
  | false =>
    have HV := Lib.hid (show grsB l id = 0 by unfold grsB; rw [ask_bad id ht]; rfl)
    rw [ht] at HT
    clear ht
    go_enter Try.func120, Try.ntmps120
    go_wp2_with fail
    refine HT.out.mono ?_; rintro e w1 ⟨rfl, hb1⟩
    go_wp2
    go_ret
    exact ⟨ret_int HV.out.symm, hb1⟩
  | true =>
    rw [ht] at HT
    have HL : Hid (∀ W, InK 6 thC W A l → Calls Try.prog 171 #[.slice A l.length ca, .int .i64 id, .int .i64 5] W fun e w' => e = .returned (.int .i64 (grsB l id)) ∧ Below W.heap.size W w') := Lib.hid (fun W h => by
      rcases ask_cases l id with ⟨hf, ha⟩ | ⟨k, hk, hf, hd, ⟨h2, _⟩ | ⟨_, ha⟩⟩
      · rw [show grsB l id = 0 by unfold grsB; rw [ha]; rfl]
        exact gross_miss id A ca l W h hn hf
      · rw [ht] at h2; cases h2
      · rw [show grsB l id = gr l 4 l[k] by unfold grsB; rw [ha]; rfl]
        have hT := ths_of ht
        have h0 := gross_l5_rec A ca l hT.len hT.lis hT.sha 4 5 (by omega) (by omega) (by omega) l[k] (List.getElem_mem hk) (by omega) W h
        rw [hd] at h0
        exact h0)
    generalize grsB l id = V at *
    clear ht
    go_enter Try.func120, Try.ntmps120
    go_wp2_with fail
    refine HT.out.mono ?_; rintro e w1 ⟨rfl, hb1⟩
    go_wp2_with fail
    refine (HL.out _ (HA.out.below hb1)).mono ?_; rintro e w2 ⟨rfl, hb2⟩
    go_wp2
    go_ret
    exact ⟨rfl, hb1.trans (hb2.mono hb1.size)⟩
end Go.Proofs.Ytodphbnbljpegab
