/- The walk of the law on zones: a place is in one at most. -/
import Derived.Test.YtakpeakahofjlaaDrawZ3
import Derived.Test.YtakpeakahofjlaaZoneM
import Derived.Test.YtakpeakahofjlaaBig
import Derived.Test.YtakpeakahofjlaaOpenB
namespace Go.Proofs.Ytakpeakahofjlaa.fnZone
open Go.RowKit
def cnt (z : Int) (k : Nat) : Int := if 0 ≤ z ∧ z < k then 1 else 0
theorem cnt_start (z : Int) : cnt z 0 = 0 := if_neg (by omega)
theorem cnt_miss {z : Int} {k : Nat} (h : ¬ z = k) : cnt z (k + 1) = cnt z k := by
  unfold cnt
  by_cases h1 : 0 ≤ z ∧ z < k
  · rw [if_pos h1, if_pos (by omega)]
  · rw [if_neg h1, if_neg (by omega)]
theorem cnt_here (k : Nat) : cnt k k = 0 := if_neg (by omega)
theorem cnt_hit (k : Nat) : cnt k (k + 1) = 1 := if_pos (by omega)
theorem cnt_none (k : Nat) : cnt (-1) k = 0 := if_neg (by omega)
theorem cnt_some {j k : Nat} (h : j < k) : cnt j k = 1 := if_pos (by omega)
set_option maxRecDepth 100000 in
set_option maxHeartbeats 4000000 in
theorem walk (A : Option Addr) (n cap : Nat) (w : World) (hr : BytesIn w A n) (_hm : n ≤ maxLen) :
    Calls Try.prog 4 #[.slice A n cap] w fun e w' => e = .returned (.bool true) ∧ Below w.heap.size w w' := by
  clear _hm
  have HR := Lib.hid hr; clear hr
  by_cases hbig : 4096 < n
  · have hB : bigB n = true := by simp [bigB, hbig]
    go_enter Try.func4, Try.ntmps4
    go_wp2_with fail
    refine (big_any _ _ _ _).mono ?_; rintro e w1 ⟨rfl, rfl⟩
    go_wp2
    go_ret
    exact ⟨rfl, Below.refl _ _⟩
  · have hB : bigB n = false := by simp [bigB]; omega
    go_enter Try.func4, Try.ntmps4
    go_wp2_with fail
    refine (big_any _ _ _ _).mono ?_; rintro e w1 ⟨rfl, rfl⟩
    go_wp2_with fail
    refine (drawZoneOf_any A n cap _ (by omega) HR.out).mono ?_
    rintro e w1 ⟨⟨v, l, p, rfl, hO, hs, hl, hp⟩, hb1⟩
    obtain ⟨D, c, rfl⟩ := OwnK.opens (k := 2) (enc := zC) hO
    have hI := Lib.hid (OwnK.ins zC_len hO).2
    have hs' : ∀ z ∈ l, z.1.size ≤ maxLen ∧ z.2.size ≤ maxLen := fun z hz => ⟨Nat.le_trans (hs z hz).1 (by unfold maxLen; omega), Nat.le_trans (hs z hz).2 (by unfold maxLen; omega)⟩
    have hp' : p.size ≤ maxLen := Nat.le_trans hp (by unfold maxLen; omega)
    have HZ := Lib.hid (fun q W hA hq => zone_of D c l q W hA hs' (by omega) hq)
    have HA := Lib.hid (fun W hA => are_zones D c l W hA hs' (by omega))
    have HP := Lib.hid (fun W => place_impl p W hp')
    have HS := Lib.hid (And.intro hs' hp')
    clear hO hs hs' hp'
    go_wp2_with fail
    refine (HZ.out p w1 hI.out HS.out.2).mono ?_; rintro e w2 ⟨rfl, hb2⟩
    have hI2 := Lib.hid (hI.out.below hb2)
    replace hb2 := hb1.trans (hb2.mono hb1.size)
    clear hb1 hI
    go_wp2_with fail
    refine (HA.out w2 hI2.out).mono ?_; rintro e w3 ⟨rfl, hb3⟩
    have hI3 := Lib.hid (hI2.out.below hb3)
    replace hb3 := hb2.trans (hb3.mono hb2.size)
    clear hb2 hI2
    cases hz : areZB l with
    | false =>
      have HN := Lib.hid (zoneOf_bad1 (p := p) hz)
      clear hz
      rw [HN.out]
      go_wp2
      go_ret
      exact ⟨rfl, hb3⟩
    | true =>
      have HH := Lib.hid (fun k hk => zone_hit (p := p) hz k hk)
      have H1 := Lib.hid (fun k hk => zone_first hz k hk)
      have H2 := Lib.hid (fun k hk => zone_last hz k hk)
      have HC := Lib.hid (zoneOf_cases l p)
      clear hz
      generalize hz : zoneOf l p = z at *
      go_wp2
      go_loopw [6, 7] (fun nn i wr => ∃ (k : Nat) (m : Int), k ≤ l.length ∧ i = .int .i64 k ∧ nn = .int .i64 m ∧ Hid (m = cnt z k) ∧ Hid (InK 2 zC wr D l) ∧ Hid (Below w.heap.size w wr)) (fun _ i _ => l.length - (intOf i).toNat)
      case atStart => exact ⟨0, 0, Nat.zero_le _, rfl, rfl, Lib.hid (cnt_start z).symm, hI3, Lib.hid hb3⟩
      case round =>
        obtain ⟨k, m, hk, rfl, rfl, HM, HI, HB⟩ := hrel
        clear hb3 hI3
        by_cases hlt : (k : Int) < (l.length : Int)
        · have hkn : k < l.length := by omega
          obtain ⟨g, rfl, hg, c0, c1⟩ := HI.out.zone k hkn
          have F1 := Lib.hid (H1.out k hkn)
          have F2 := Lib.hid (H2.out k hkn)
          have FH := Lib.hid (HH.out k hkn)
          have hs1 := (HS.out.1 l[k] (List.getElem_mem hkn)).1
          have hs2 := (HS.out.1 l[k] (List.getElem_mem hkn)).2
          obtain ⟨s, hs⟩ : ∃ s, s = l[k].1 := ⟨_, rfl⟩
          obtain ⟨t, ht⟩ : ∃ t, t = l[k].2 := ⟨_, rfl⟩
          rw [zAt_get hkn] at F1 F2
          have hzn : zIn (zAt l k) p = (!Op.bytesLess p.toList s.toList && !Op.bytesLess t.toList p.toList) := by rw [zAt_get hkn, hs, ht]; rfl
          rw [hzn] at FH
          rw [← hs] at c0 F1 hs1; rw [← ht] at c1 F2 hs2
          clear hs ht hzn
          have e1 := le_not s.toList p.toList
          have e2 := le_not p.toList t.toList
          cases h0 : plcB p.data.toList with
          | false =>
            rw [h0] at HP FH; clear h0 e1 e2
            have HNE := Lib.hid (show ¬ z = (k : Int) from of_decide_eq_false FH.out.symm)
            go_wp2_with fail
            refine (HP.out _).mono ?_; rintro e wc ⟨rfl, rfl⟩
            go_wp2_with fail
            refine (HZ.out s wr HI.out hs1).mono ?_; rintro e wa ⟨rfl, hba⟩
            rw [F1.out]
            have c1a : wa.cell? ⟨g, k * 2 + 1, none⟩ = some (.string t) := by rw [hba.cell (p := ⟨g, k * 2 + 1, none⟩) hg]; exact c1
            have HIa := Lib.hid (HI.out.below hba)
            clear c0 c1
            go_wp2_with fail
            refine (HZ.out t wa HIa.out hs2).mono ?_; rintro e wb ⟨rfl, hbb⟩
            rw [F2.out]
            have HIb := Lib.hid (HIa.out.below hbb)
            have HBb := Lib.hid ((HB.out.trans (hba.mono HB.out.size)).trans (hbb.mono (Nat.le_trans HB.out.size hba.size)))
            clear hba hbb c1a
            go_wp2
            go_roundw
            case rel => exact ⟨k + 1, m, by omega, by go_num, rfl, Lib.hid (HM.out.trans (cnt_miss HNE.out).symm), HIb, HBb⟩
            case measure => simp [intOf]; omega
          | true =>
            rw [h0] at HP FH; clear h0
            cases h1 : Op.bytesLess p.toList s.toList with
            | true =>
              rw [h1] at e1 FH; clear h1 e2
              have HNE := Lib.hid (show ¬ z = (k : Int) from of_decide_eq_false FH.out.symm)
              go_wp2_with fail
              refine (HP.out _).mono ?_; rintro e wc ⟨rfl, rfl⟩
              go_wp2_with fail
              refine (HZ.out s wr HI.out hs1).mono ?_; rintro e wa ⟨rfl, hba⟩
              rw [F1.out]
              have c1a : wa.cell? ⟨g, k * 2 + 1, none⟩ = some (.string t) := by rw [hba.cell (p := ⟨g, k * 2 + 1, none⟩) hg]; exact c1
              have HIa := Lib.hid (HI.out.below hba)
              clear c0 c1
              go_wp2_with fail
              refine (HZ.out t wa HIa.out hs2).mono ?_; rintro e wb ⟨rfl, hbb⟩
              rw [F2.out]
              have HIb := Lib.hid (HIa.out.below hbb)
              have HBb := Lib.hid ((HB.out.trans (hba.mono HB.out.size)).trans (hbb.mono (Nat.le_trans HB.out.size hba.size)))
              clear hba hbb c1a
              go_wp2
              go_roundw
              case rel => exact ⟨k + 1, m, by omega, by go_num, rfl, Lib.hid (HM.out.trans (cnt_miss HNE.out).symm), HIb, HBb⟩
              case measure => simp [intOf]; omega
            | false =>
              rw [h1] at e1 FH; clear h1
              cases h2 : Op.bytesLess t.toList p.toList with
              | true =>
                rw [h2] at e2 FH; clear h2
                have HNE := Lib.hid (show ¬ z = (k : Int) from of_decide_eq_false FH.out.symm)
                go_wp2_with fail
                refine (HP.out _).mono ?_; rintro e wc ⟨rfl, rfl⟩
                go_wp2_with fail
                refine (HZ.out s wr HI.out hs1).mono ?_; rintro e wa ⟨rfl, hba⟩
                rw [F1.out]
                have c1a : wa.cell? ⟨g, k * 2 + 1, none⟩ = some (.string t) := by rw [hba.cell (p := ⟨g, k * 2 + 1, none⟩) hg]; exact c1
                have HIa := Lib.hid (HI.out.below hba)
                clear c0 c1
                go_wp2_with fail
                refine (HZ.out t wa HIa.out hs2).mono ?_; rintro e wb ⟨rfl, hbb⟩
                rw [F2.out]
                have HIb := Lib.hid (HIa.out.below hbb)
                have HBb := Lib.hid ((HB.out.trans (hba.mono HB.out.size)).trans (hbb.mono (Nat.le_trans HB.out.size hba.size)))
                clear hba hbb c1a
                go_wp2
                go_roundw
                case rel => exact ⟨k + 1, m, by omega, by go_num, rfl, Lib.hid (HM.out.trans (cnt_miss HNE.out).symm), HIb, HBb⟩
                case measure => simp [intOf]; omega
              | false =>
                rw [h2] at e2 FH; clear h2
                have hzk : z = (k : Int) := of_decide_eq_true FH.out.symm
                have hm0 : m = 0 := by rw [HM.out, hzk]; exact cnt_here k
                subst hm0
                subst hzk
                go_wp2_with fail
                refine (HP.out _).mono ?_; rintro e wc ⟨rfl, rfl⟩
                go_wp2_with fail
                refine (HZ.out s wr HI.out hs1).mono ?_; rintro e wa ⟨rfl, hba⟩
                rw [F1.out]
                have c1a : wa.cell? ⟨g, k * 2 + 1, none⟩ = some (.string t) := by rw [hba.cell (p := ⟨g, k * 2 + 1, none⟩) hg]; exact c1
                have HIa := Lib.hid (HI.out.below hba)
                clear c0 c1
                go_wp2_with fail
                refine (HZ.out t wa HIa.out hs2).mono ?_; rintro e wb ⟨rfl, hbb⟩
                rw [F2.out]
                have HIb := Lib.hid (HIa.out.below hbb)
                have HBb := Lib.hid ((HB.out.trans (hba.mono HB.out.size)).trans (hbb.mono (Nat.le_trans HB.out.size hba.size)))
                clear hba hbb c1a
                go_wp2
                go_roundw
                case rel => exact ⟨k + 1, 1, by omega, by go_num, rfl, Lib.hid (cnt_hit k).symm, HIb, HBb⟩
                case measure => simp [intOf]; omega
        · obtain rfl : k = l.length := by omega
          have HBx := HB
          rcases HC.out with h | ⟨j, hj, h, _⟩
          · subst h
            have hm0 : m = 0 := by rw [HM.out]; exact cnt_none _
            subst hm0
            go_wp2
            go_ret
            exact ⟨rfl, HBx.out⟩
          · subst h
            have hm0 : m = 1 := by rw [HM.out]; exact cnt_some hj
            subst hm0
            go_wp2
            go_ret
            exact ⟨rfl, HBx.out⟩
end Go.Proofs.Ytakpeakahofjlaa.fnZone
