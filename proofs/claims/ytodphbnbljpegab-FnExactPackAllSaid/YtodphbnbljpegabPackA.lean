/- The contract of putIntoFirst. -/
import Derived.Test.YtodphbnbljpegabPut
import Derived.Test.YtodphbnbljpegabPackM
namespace Go.Proofs.Ytodphbnbljpegab
open Go.RowKit
theorem put_form {w : World} {b : Nat} {v : Value} {l : List Th} {id box : Int} (h : OwnKth w b v (putL l id box)) (hc : putC l id box = 0) : ∃ G c, v = .slice (some ⟨G, 0, none⟩) l.length c ∧ b ≤ G := by
  obtain ⟨k, _, hk, _, _⟩ := put_code_pos hc
  have hlen := put_len l id box
  obtain ⟨A, c, rfl⟩ := h.opens
  obtain ⟨G, rfl, _⟩ := InK.th (h.ins thC_len).2 k (by omega)
  exact ⟨G, c, by rw [hlen], (World.ownsRow.lt h G rfl).1⟩
set_option maxRecDepth 100000 in
set_option maxHeartbeats 2000000 in
theorem put_first (id : Int) (g ca b : Nat) (l : List Th) (D : Option Addr) (cd : Nat) (bs : List Int) (w : World) (hA : OwnKth w b (.slice (some ⟨g, 0, none⟩) l.length ca) l) (hn : l.length ≤ 1048576) (ht : thsB l = true) (hD : IntsIn w D bs) (hm : bs.length ≤ 1048576) (hb : b ≤ w.heap.size) :
    Calls Try.prog 77 #[.slice (some ⟨g, 0, none⟩) l.length ca, .int .i64 id, .slice D bs.length cd] w fun e w' => ∃ G c, e = .returned (.tuple #[.slice (some ⟨G, 0, none⟩) l.length c, .bool (firB l id bs).2]) ∧ OwnKth w' b (.slice (some ⟨G, 0, none⟩) l.length c) (firB l id bs).1 ∧ (G = g ∨ w.heap.size ≤ G) ∧ Below w.heap.size w w' := by
  have HP := Lib.hid (fun box W h => put_th id box g ca l W h hn ht)
  have HA := Lib.hid hA; have HD := Lib.hid hD; clear hA hD ht
  go_enter Try.func77, Try.ntmps77
  go_wp2
  go_loopw [14] (fun i wr => ∃ k : Nat, k ≤ bs.length ∧ i = .int .i64 k ∧ NoFir l id bs k ∧ Below w.heap.size w wr) (fun i _ => bs.length - (intOf i).toNat)
  case atStart => exact ⟨0, Nat.zero_le _, rfl, rfl, Below.refl _ _⟩
  case round =>
    obtain ⟨k, hk, rfl, hN, hbw⟩ := hrel
    have HN := Lib.hid hN; have HB := Lib.hid hbw; clear hN hbw
    by_cases hlt : k < bs.length
    · have hki : (k : Int) < (bs.length : Int) := by omega
      have HDk := Lib.hid (HD.out.below HB.out)
      obtain ⟨ge, rfl, hge, e0⟩ := HDk.out k hlt
      obtain ⟨bx, hbx⟩ : ∃ bx, bx = bs[k] := ⟨_, rfl⟩
      rw [← hbx] at e0
      have HX := Lib.hid hbx; clear hbx
      go_wp2_with fail
      refine (HP.out bx _ ((HA.out.below HB.out).ins thC_len).2).mono ?_; rintro e w2 ⟨v2, rfl, ho2, hb2⟩
      have HO2 := Lib.hid ho2; have HB2 := Lib.hid (HB.out.trans (hb2.mono HB.out.size)); clear ho2 hb2 e0
      by_cases hc : putC l id bx = 0
      · have HF := Lib.hid (noFir_hit HN.out hlt (by rw [← HX.out]; exact hc))
        rw [hc]
        obtain ⟨G, c, rfl, hG⟩ := put_form HO2.out hc
        go_wp2
        go_ret2
        exact ⟨G, c, by rw [HF.out]; rfl, by rw [HF.out, ← HX.out]; exact OwnK.mono HO2.out (Nat.le_trans hb HB.out.size), .inr (Nat.le_trans HB.out.size hG), HB2.out⟩
      · have HF := Lib.hid (noFir_next HN.out hlt (by rw [← HX.out]; exact hc))
        have hcd : (putC l id bx == 0) = false := beq_eq_false_iff_ne.2 hc
        go_wp2
        go_roundw
        case rel => exact ⟨k + 1, by omega, by go_num, HF.out, HB2.out⟩
        case measure => simp [intOf]; omega
    · obtain rfl : k = bs.length := by omega
      have HF := Lib.hid (noFir_end HN.out)
      go_wp2
      go_ret2
      exact ⟨g, ca, by rw [HF.out]; rfl, by rw [HF.out]; exact below_th HA.out HB.out, .inl rfl, HB.out⟩
end Go.Proofs.Ytodphbnbljpegab
